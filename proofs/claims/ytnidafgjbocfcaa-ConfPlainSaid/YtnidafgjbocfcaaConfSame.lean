/- conf.Same and the page's Same; conf.Copy; the page's Plain. -/
import Derived.Test.YtnidafgjbocfcaaConfBools
namespace Go.Proofs.Ytnidafgjbocfcaa.Conf
open Go.RowKit

/-- The same config? -/
def sameF (c d : Cfg) : Bool := c.f1 == d.f1 && (c.f2 == d.f2 && (c.f3 == d.f3 && (c.f4 == d.f4 && (c.f5 == d.f5 && (c.f6 == d.f6 && (c.f7 == d.f7 && (c.f8 == d.f8 && (c.f9 == d.f9 && (c.f10 == d.f10 && (c.f11 == d.f11))))))))))
def sameC (c d : Cfg) (xs ys : List Bool) : Bool := (xs == ys) && sameF c d

set_option maxRecDepth 20000 in
set_option maxHeartbeats 4000000 in
theorem same_any (c d : Cfg) (xs ys : List Bool) (hn : c.n ≤ 9223372036854775807) (w : World) (ha : Bl w c.A c.n xs) (hb : Bl w d.A d.n ys) :
    Calls Try.prog 32 #[.agg c.cells, .agg d.cells] w fun e w' => e = .returned (.bool (sameC c d xs ys)) ∧ Below w.heap.size w w' := by
  have hB2 : Below w.heap.size w ((w.alloc (.cells c.cells 53)).alloc (.cells d.cells 53)) := ((Below.refl _ _).alloc (Nat.le_refl _) _).alloc (by simp) _
  have HE := Lib.hid (equal_any c.A d.A c.n d.n c.cap d.cap xs ys hn _ (ha.below hB2) (hb.below hB2))
  have HB2 := Lib.hid hB2
  clear ha hb hB2
  unfold Cfg.cells at *
  cases hxy : (xs == ys) with
  | false =>
    have HSC := Lib.hid (show sameC c d xs ys = false by simp only [sameC, hxy, Bool.false_and])
    rw [hxy] at HE
    clear hxy
    go_enter Try.func32, Try.ntmps32
    go_wp2_with (go_at_call 62; refine HE.out.mono ?_; rintro e w2 ⟨rfl, q, rfl⟩)
    have HB := Lib.hid (HB2.out.trans ((below_drew2 _ q).mono HB2.out.size))
    go_ret
    exact ⟨by rw [HSC.out]; rfl, HB.out⟩
  | true =>
    have HSC := Lib.hid (show sameC c d xs ys = sameF c d by simp only [sameC, hxy, Bool.true_and])
    rw [hxy] at HE
    clear hxy
    go_enter Try.func32, Try.ntmps32
    go_wp2_with fail
    refine HE.out.mono ?_
    rintro e w2 ⟨rfl, hw2⟩
    have hB3 : Below w.heap.size w w2 := by obtain ⟨q, rfl⟩ := hw2; exact HB2.out.trans ((below_drew2 _ q).mono HB2.out.size)
    have HB := Lib.hid hB3
    have xc0 : w2.cell? ⟨w.heap.size, 0, none⟩ = some (.slice c.A c.n c.cap) := by obtain ⟨q, rfl⟩ := hw2; simp
    have xc1 : w2.cell? ⟨w.heap.size, 1, none⟩ = some (.int .i64 c.f1) := by obtain ⟨q, rfl⟩ := hw2; simp
    have xc2 : w2.cell? ⟨w.heap.size, 2, none⟩ = some (.int .i64 c.f2) := by obtain ⟨q, rfl⟩ := hw2; simp
    have xc3 : w2.cell? ⟨w.heap.size, 3, none⟩ = some (.int .i64 c.f3) := by obtain ⟨q, rfl⟩ := hw2; simp
    have xc4 : w2.cell? ⟨w.heap.size, 4, none⟩ = some (.int .i64 c.f4) := by obtain ⟨q, rfl⟩ := hw2; simp
    have xc5 : w2.cell? ⟨w.heap.size, 5, none⟩ = some (.int .i64 c.f5) := by obtain ⟨q, rfl⟩ := hw2; simp
    have xc6 : w2.cell? ⟨w.heap.size, 6, none⟩ = some (.int .i64 c.f6) := by obtain ⟨q, rfl⟩ := hw2; simp
    have xc7 : w2.cell? ⟨w.heap.size, 7, none⟩ = some (.int .i64 c.f7) := by obtain ⟨q, rfl⟩ := hw2; simp
    have xc8 : w2.cell? ⟨w.heap.size, 8, none⟩ = some (.int .i64 c.f8) := by obtain ⟨q, rfl⟩ := hw2; simp
    have xc9 : w2.cell? ⟨w.heap.size, 9, none⟩ = some (.int .i64 c.f9) := by obtain ⟨q, rfl⟩ := hw2; simp
    have xc10 : w2.cell? ⟨w.heap.size, 10, none⟩ = some (.int .i64 c.f10) := by obtain ⟨q, rfl⟩ := hw2; simp
    have xc11 : w2.cell? ⟨w.heap.size, 11, none⟩ = some (.int .u64 c.f11) := by obtain ⟨q, rfl⟩ := hw2; simp
    have xd0 : w2.cell? ⟨w.heap.size + 1, 0, none⟩ = some (.slice d.A d.n d.cap) := by obtain ⟨q, rfl⟩ := hw2; simp
    have xd1 : w2.cell? ⟨w.heap.size + 1, 1, none⟩ = some (.int .i64 d.f1) := by obtain ⟨q, rfl⟩ := hw2; simp
    have xd2 : w2.cell? ⟨w.heap.size + 1, 2, none⟩ = some (.int .i64 d.f2) := by obtain ⟨q, rfl⟩ := hw2; simp
    have xd3 : w2.cell? ⟨w.heap.size + 1, 3, none⟩ = some (.int .i64 d.f3) := by obtain ⟨q, rfl⟩ := hw2; simp
    have xd4 : w2.cell? ⟨w.heap.size + 1, 4, none⟩ = some (.int .i64 d.f4) := by obtain ⟨q, rfl⟩ := hw2; simp
    have xd5 : w2.cell? ⟨w.heap.size + 1, 5, none⟩ = some (.int .i64 d.f5) := by obtain ⟨q, rfl⟩ := hw2; simp
    have xd6 : w2.cell? ⟨w.heap.size + 1, 6, none⟩ = some (.int .i64 d.f6) := by obtain ⟨q, rfl⟩ := hw2; simp
    have xd7 : w2.cell? ⟨w.heap.size + 1, 7, none⟩ = some (.int .i64 d.f7) := by obtain ⟨q, rfl⟩ := hw2; simp
    have xd8 : w2.cell? ⟨w.heap.size + 1, 8, none⟩ = some (.int .i64 d.f8) := by obtain ⟨q, rfl⟩ := hw2; simp
    have xd9 : w2.cell? ⟨w.heap.size + 1, 9, none⟩ = some (.int .i64 d.f9) := by obtain ⟨q, rfl⟩ := hw2; simp
    have xd10 : w2.cell? ⟨w.heap.size + 1, 10, none⟩ = some (.int .i64 d.f10) := by obtain ⟨q, rfl⟩ := hw2; simp
    have xd11 : w2.cell? ⟨w.heap.size + 1, 11, none⟩ = some (.int .u64 d.f11) := by obtain ⟨q, rfl⟩ := hw2; simp
    clear hw2 hB3
    go_wp2
    all_goals go_ret
    all_goals (refine ⟨?_, HB.out⟩; rw [HSC.out]; simp_all [sameF])

end Go.Proofs.Ytnidafgjbocfcaa.Conf
