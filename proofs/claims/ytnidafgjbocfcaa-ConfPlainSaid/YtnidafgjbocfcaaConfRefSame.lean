/- The page's Same of two configs. -/
import Derived.Test.YtnidafgjbocfcaaConfSame
import Derived.Deep.Cut
namespace Go.Proofs.Ytnidafgjbocfcaa.Conf
open Go.RowKit

set_option maxRecDepth 20000 in
set_option maxHeartbeats 4000000 in
theorem rsame_any (c d : Cfg) (xs ys : List Bool) (hn : c.n ≤ 9223372036854775807) (w : World) (ha : Bl w c.A c.n xs) (hb : Bl w d.A d.n ys) :
    Calls Try.prog 29 #[.agg c.cells, .agg d.cells] w fun e w' => e = .returned (.bool (sameC c d xs ys)) ∧ Below w.heap.size w w' := by
  have hB2 : Below w.heap.size w ((w.alloc (.cells c.cells 53)).alloc (.cells d.cells 53)) := ((Below.refl _ _).alloc (Nat.le_refl _) _).alloc (by simp) _
  have HA := Lib.hid (ha.below hB2)
  have HBb := Lib.hid (hb.below hB2)
  have HB2 := Lib.hid hB2
  clear ha hb hB2
  obtain ⟨w2, hw2⟩ : ∃ w2, w2 = ((w.alloc (.cells c.cells 53)).alloc (.cells d.cells 53)) := ⟨_, rfl⟩
  rw [← hw2] at HA HBb HB2
  have HW := Lib.hid hw2
  have xc0 : w2.cell? ⟨w.heap.size, 0, none⟩ = some (.slice c.A c.n c.cap) := by rw [hw2]; unfold Cfg.cells; simp
  have xd0 : w2.cell? ⟨w.heap.size + 1, 0, none⟩ = some (.slice d.A d.n d.cap) := by rw [hw2]; unfold Cfg.cells; simp
  by_cases hnm : c.n = d.n
  · go_enter Try.func29, Try.ntmps29
    go_upto_region 1 with fail
    rw [← HW.out]
    clear hw2
    have hnm2 : ((c.n : Int) == (d.n : Int)) = true := by simp [hnm]
    go_wp2
    go_loopw [5] (fun i wr => ∃ k : Nat, i = .int .i64 (k : Int) ∧ k ≤ c.n ∧ Hid (xs.take k = ys.take k) ∧ ∃ q, wr = w2.drewN q) (fun i _ => c.n - (intOf i).toNat)
    case atStart => exact ⟨0, rfl, Nat.zero_le _, Lib.hid (by simp), 0, rfl⟩
    case round =>
      obtain ⟨k, rfl, hk, ht, q, rfl⟩ := hrel
      by_cases hlt : k < c.n
      · obtain ⟨b, off, hAe, _, hc⟩ := HA.out.2 (by omega)
        obtain ⟨b', off', hBe, _, hc'⟩ := HBb.out.2 (by omega)
        have hck := hc k hlt
        have hck' := hc' k (by omega)
        clear hc hc'
        rw [hAe] at xc0
        rw [hBe] at xd0
        have hi0 : (0 : Int) ≤ (k : Int) := by omega
        have hi1 : (k : Int) < (c.n : Int) := by omega
        have hi2 : (k : Int) < (d.n : Int) := by omega
        have hlx := HA.out.1
        have hly := HBb.out.1
        have HX := Lib.hid (show xs.take (k + 1) = xs.take k ++ [xs.getD k false] by rw [List.take_succ_eq_append_getElem (by omega), List.getD_eq_getElem?_getD, List.getElem?_eq_getElem (by omega)]; rfl)
        have HY := Lib.hid (show ys.take (k + 1) = ys.take k ++ [ys.getD k false] by rw [List.take_succ_eq_append_getElem (by omega), List.getD_eq_getElem?_getD, List.getElem?_eq_getElem (by omega)]; rfl)
        have HN := Lib.hid (show xs.getD k false ≠ ys.getD k false → sameC c d xs ys = false from fun h => by
          have : (xs == ys) = false := by
            cases hq : (xs == ys) with
            | false => rfl
            | true => rw [eq_of_beq hq] at h; exact absurd rfl h
          simp only [sameC, this, Bool.false_and])
        clear hlx hly hAe hBe
        obtain ⟨x, hx⟩ : ∃ x, x = xs.getD k false := ⟨_, rfl⟩
        obtain ⟨y, hy⟩ : ∃ y, y = ys.getD k false := ⟨_, rfl⟩
        rw [← hx] at hck HX HN
        rw [← hy] at hck' HY HN
        clear hx hy
        cases x <;> cases y
        · go_wp2
          go_quiet (fail)
          go_wp2
          exact ⟨⟨k + 1, by go_num, by omega, Lib.hid (by rw [HX.out, HY.out, ht.out]), _, rfl⟩, by simp [intOf]; omega⟩
        · go_wp2
          go_quiet (fail)
          go_wp2
          go_ret
          exact ⟨by rw [HN.out (by decide)]; rfl, HB2.out.trans (by rw [drewN2]; exact (below_drew2 _ _).mono HB2.out.size)⟩
        · go_wp2
          go_quiet (fail)
          go_wp2
          go_ret
          exact ⟨by rw [HN.out (by decide)]; rfl, HB2.out.trans (by rw [drewN2]; exact (below_drew2 _ _).mono HB2.out.size)⟩
        · go_wp2
          go_quiet (fail)
          go_wp2
          exact ⟨⟨k + 1, by go_num, by omega, Lib.hid (by rw [HX.out, HY.out, ht.out]), _, rfl⟩, by simp [intOf]; omega⟩
      · obtain rfl : k = c.n := by omega
        have HSC := Lib.hid (show sameC c d xs ys = sameF c d by
          have hq : (xs == ys) = true := by
            have := ht.out
            rw [List.take_of_length_le (by rw [HA.out.1]; exact Nat.le_refl _), List.take_of_length_le (by rw [HBb.out.1]; omega)] at this
            rw [this]; simp
          simp only [sameC, hq, Bool.true_and])
        have HB := Lib.hid (HB2.out.trans ((below_drew2 w2 q).mono HB2.out.size))
        have xc1 : w2.cell? ⟨w.heap.size, 1, none⟩ = some (.int .i64 c.f1) := by rw [HW.out]; unfold Cfg.cells; simp
        have xc2 : w2.cell? ⟨w.heap.size, 2, none⟩ = some (.int .i64 c.f2) := by rw [HW.out]; unfold Cfg.cells; simp
        have xc3 : w2.cell? ⟨w.heap.size, 3, none⟩ = some (.int .i64 c.f3) := by rw [HW.out]; unfold Cfg.cells; simp
        have xc4 : w2.cell? ⟨w.heap.size, 4, none⟩ = some (.int .i64 c.f4) := by rw [HW.out]; unfold Cfg.cells; simp
        have xc5 : w2.cell? ⟨w.heap.size, 5, none⟩ = some (.int .i64 c.f5) := by rw [HW.out]; unfold Cfg.cells; simp
        have xc6 : w2.cell? ⟨w.heap.size, 6, none⟩ = some (.int .i64 c.f6) := by rw [HW.out]; unfold Cfg.cells; simp
        have xc7 : w2.cell? ⟨w.heap.size, 7, none⟩ = some (.int .i64 c.f7) := by rw [HW.out]; unfold Cfg.cells; simp
        have xc8 : w2.cell? ⟨w.heap.size, 8, none⟩ = some (.int .i64 c.f8) := by rw [HW.out]; unfold Cfg.cells; simp
        have xc9 : w2.cell? ⟨w.heap.size, 9, none⟩ = some (.int .i64 c.f9) := by rw [HW.out]; unfold Cfg.cells; simp
        have xc10 : w2.cell? ⟨w.heap.size, 10, none⟩ = some (.int .i64 c.f10) := by rw [HW.out]; unfold Cfg.cells; simp
        have xc11 : w2.cell? ⟨w.heap.size, 11, none⟩ = some (.int .u64 c.f11) := by rw [HW.out]; unfold Cfg.cells; simp
        have xd1 : w2.cell? ⟨w.heap.size + 1, 1, none⟩ = some (.int .i64 d.f1) := by rw [HW.out]; unfold Cfg.cells; simp
        have xd2 : w2.cell? ⟨w.heap.size + 1, 2, none⟩ = some (.int .i64 d.f2) := by rw [HW.out]; unfold Cfg.cells; simp
        have xd3 : w2.cell? ⟨w.heap.size + 1, 3, none⟩ = some (.int .i64 d.f3) := by rw [HW.out]; unfold Cfg.cells; simp
        have xd4 : w2.cell? ⟨w.heap.size + 1, 4, none⟩ = some (.int .i64 d.f4) := by rw [HW.out]; unfold Cfg.cells; simp
        have xd5 : w2.cell? ⟨w.heap.size + 1, 5, none⟩ = some (.int .i64 d.f5) := by rw [HW.out]; unfold Cfg.cells; simp
        have xd6 : w2.cell? ⟨w.heap.size + 1, 6, none⟩ = some (.int .i64 d.f6) := by rw [HW.out]; unfold Cfg.cells; simp
        have xd7 : w2.cell? ⟨w.heap.size + 1, 7, none⟩ = some (.int .i64 d.f7) := by rw [HW.out]; unfold Cfg.cells; simp
        have xd8 : w2.cell? ⟨w.heap.size + 1, 8, none⟩ = some (.int .i64 d.f8) := by rw [HW.out]; unfold Cfg.cells; simp
        have xd9 : w2.cell? ⟨w.heap.size + 1, 9, none⟩ = some (.int .i64 d.f9) := by rw [HW.out]; unfold Cfg.cells; simp
        have xd10 : w2.cell? ⟨w.heap.size + 1, 10, none⟩ = some (.int .i64 d.f10) := by rw [HW.out]; unfold Cfg.cells; simp
        have xd11 : w2.cell? ⟨w.heap.size + 1, 11, none⟩ = some (.int .u64 d.f11) := by rw [HW.out]; unfold Cfg.cells; simp
        go_wp2
        all_goals go_ret
        all_goals (refine ⟨?_, HB.out⟩; rw [HSC.out]; simp_all [sameF])
  · have HSC := Lib.hid (show sameC c d xs ys = false by
      have : (xs == ys) = false := by
        cases hq : (xs == ys) with
        | false => rfl
        | true => exact absurd (by rw [← HA.out.1, ← HBb.out.1, eq_of_beq hq]) hnm
      simp only [sameC, this, Bool.false_and])
    have hnm2 : ((c.n : Int) == (d.n : Int)) = false := by simp; omega
    go_enter Try.func29, Try.ntmps29
    go_upto_region 1 with fail
    rw [← HW.out]
    clear hw2
    go_wp2
    go_ret
    exact ⟨by rw [HSC.out]; rfl, HB2.out⟩

end Go.Proofs.Ytnidafgjbocfcaa.Conf
