/- conf.Check: the first field that isn't right. -/
import Derived.Test.YtpkkomifenlkaaaGreatConfFields
namespace Go.Proofs.YtpkkomifenlkaaaGreat.Conf
open Go.RowKit

def wrong (c : Cfg) : Nat → Nat → ByteArray
  | 0, _ => ⟨#[]⟩
  | n + 1, k => if right (c.at k) (lo k) (hi k) then wrong c n (k + 1) else word k
def code (c : Cfg) : Nat → Nat → Int
  | 0, _ => 0
  | n + 1, k => if right (c.at k) (lo k) (hi k) then code c n (k + 1) else 1

theorem Fields.below {w w' : World} {b : Nat} {p : Nat → Nat} (h : Fields w b p) (hb : Below w.heap.size w w') : Fields w' b p :=
  ⟨Nat.lt_of_lt_of_le h.1 hb.size, fun k hk => ⟨(hb.cell (p := ⟨b, 0 + k * 2, none⟩) h.1).trans (h.2 k hk).1, (hb.cell (p := ⟨b, 0 + k * 2 + 1, none⟩) h.1).trans (h.2 k hk).2.1, (h.2 k hk).2.2.below hb⟩⟩

set_option maxRecDepth 20000 in
set_option maxHeartbeats 2000000 in
theorem check_any (c : Cfg) (w : World) :
    Calls Tryz.prog 33 #[.agg c.cells] w fun e w' => e = .returned (.tuple #[.string (wrong c 11 0), .int .i64 (code c 11 0)]) ∧ Below w.heap.size w w' := by
  have hin := fun k hk p W l h hc => inner_any c k hk p W l h hc
  have HI := Lib.hid hin
  clear hin
  have hcc : c.cells = #[.slice c.A c.n c.cap, .int .i64 c.f1, .int .i64 c.f2, .int .i64 c.f3, .int .i64 c.f4, .int .i64 c.f5, .int .i64 c.f6, .int .i64 c.f7, .int .i64 c.f8, .int .i64 c.f9, .int .i64 c.f10, .int .u64 c.f11] := rfl
  rw [hcc] at *
  go_enter Tryz.func33, Tryz.ntmps33
  go_wp2_with fail
  refine (fields_any _).mono ?_
  rintro e w1 ⟨b, p, rfl, hf, hb⟩
  have h0 : w1.heap[w.heap.size]? = some (.cells c.cells 42 (0, 0)) := (hb.block _ (by simp)).trans (heap_alloc_new w _)
  have hz : w.heap.size < w1.heap.size := by have := hb.size; simp at this; omega
  have hB : Below w.heap.size w w1 := ((Below.refl _ _).alloc (Nat.le_refl _) _).trans (hb.mono (by simp))
  have H0 := Lib.hid (And.intro h0 (And.intro hz (And.intro hB hf)))
  clear h0 hz hB hf hb
  go_wp2
  go_loopw [8] (fun i wr => ∃ k : Nat, i = .int .i64 (k : Int) ∧ k ≤ 11 ∧ Hid (wrong c 11 0 = wrong c (11 - k) k ∧ code c 11 0 = code c (11 - k) k) ∧ Hid (wr.heap[w.heap.size]? = some (.cells c.cells 42 (0, 0)) ∧ w.heap.size < wr.heap.size ∧ Below w.heap.size w wr ∧ Fields wr b p))
    (fun i _ => 11 - (intOf i).toNat)
  case atStart => exact ⟨0, rfl, by decide, Lib.hid ⟨rfl, rfl⟩, H0⟩
  case round =>
    obtain ⟨k, rfl, hk, hp, H⟩ := hrel
    by_cases hlt : k < 11
    · obtain ⟨c0, c1, hcap⟩ := H.out.2.2.2.2 k hlt
      unfold clo at c1
      rw [Nat.zero_add] at c0 c1
      have x0 : wr.cell? ⟨w.heap.size, 0, none⟩ = some (.slice c.A c.n c.cap) := cell_of_row wr _ 0 _ _ (0, 0) H.out.1
      have x1 : wr.cell? ⟨w.heap.size, 1, none⟩ = some (.int .i64 c.f1) := cell_of_row wr _ 1 _ _ (0, 0) H.out.1
      have x2 : wr.cell? ⟨w.heap.size, 2, none⟩ = some (.int .i64 c.f2) := cell_of_row wr _ 2 _ _ (0, 0) H.out.1
      have x3 : wr.cell? ⟨w.heap.size, 3, none⟩ = some (.int .i64 c.f3) := cell_of_row wr _ 3 _ _ (0, 0) H.out.1
      have x4 : wr.cell? ⟨w.heap.size, 4, none⟩ = some (.int .i64 c.f4) := cell_of_row wr _ 4 _ _ (0, 0) H.out.1
      have x5 : wr.cell? ⟨w.heap.size, 5, none⟩ = some (.int .i64 c.f5) := cell_of_row wr _ 5 _ _ (0, 0) H.out.1
      have x6 : wr.cell? ⟨w.heap.size, 6, none⟩ = some (.int .i64 c.f6) := cell_of_row wr _ 6 _ _ (0, 0) H.out.1
      have x7 : wr.cell? ⟨w.heap.size, 7, none⟩ = some (.int .i64 c.f7) := cell_of_row wr _ 7 _ _ (0, 0) H.out.1
      have x8 : wr.cell? ⟨w.heap.size, 8, none⟩ = some (.int .i64 c.f8) := cell_of_row wr _ 8 _ _ (0, 0) H.out.1
      have x9 : wr.cell? ⟨w.heap.size, 9, none⟩ = some (.int .i64 c.f9) := cell_of_row wr _ 9 _ _ (0, 0) H.out.1
      have x10 : wr.cell? ⟨w.heap.size, 10, none⟩ = some (.int .i64 c.f10) := cell_of_row wr _ 10 _ _ (0, 0) H.out.1
      have x11 : wr.cell? ⟨w.heap.size, 11, none⟩ = some (.int .u64 c.f11) := cell_of_row wr _ 11 _ _ (0, 0) H.out.1
      have hw := H.out.2.1
      have HC := Lib.hid hcap
      clear hcap
      go_wp2_with fail
      refine (HI.out k hlt (p k) _ _ _ (HC.out.below ((Below.refl _ _).alloc (Nat.le_refl _) _))).mono ?_
      rintro e w2 ⟨rfl, hb2⟩
      have d0 : w2.cell? ⟨wr.heap.size, 0, none⟩ = some (.string (word k)) := (hb2.cell (p := ⟨wr.heap.size, 0, none⟩) (by simp)).trans (by simp)
      have hBr : Below wr.heap.size wr w2 := ((Below.refl _ _).alloc (Nat.le_refl _) _).trans (hb2.mono (by simp))
      have hsz := hBr.size
      have HW := Lib.hid (And.intro hBr hb2)
      have e1 : wrong c (11 - k) k = if right (c.at k) (lo k) (hi k) then wrong c (11 - (k + 1)) (k + 1) else word k := by
        rw [show 11 - k = 11 - (k + 1) + 1 from by omega, wrong]
      have e2 : code c (11 - k) k = if right (c.at k) (lo k) (hi k) then code c (11 - (k + 1)) (k + 1) else 1 := by
        rw [show 11 - k = 11 - (k + 1) + 1 from by omega, code]
      have HE := Lib.hid (And.intro e1 e2)
      clear e1 e2 hBr hb2 x0 x1 x2 x3 x4 x5 x6 x7 x8 x9 x10 x11 c0 c1 HC
      by_cases hr : right (c.at k) (lo k) (hi k) = true
      · have HR := Lib.hid hr
        rw [hr]
        clear hr
        go_wp2
        refine ⟨⟨k + 1, by go_num, by omega, Lib.hid ⟨?_, ?_⟩, Lib.hid ⟨(HW.out.1.block _ H.out.2.1).trans H.out.1, by omega, H.out.2.2.1.trans (HW.out.1.mono (by omega)), H.out.2.2.2.below HW.out.1⟩⟩, by simp [intOf]; omega⟩
        · rw [hp.out.1, HE.out.1, if_pos HR.out]
        · rw [hp.out.2, HE.out.2, if_pos HR.out]
      · have hr : right (c.at k) (lo k) (hi k) = false := by simpa using hr
        have HR := Lib.hid hr
        rw [hr]
        clear hr
        go_wp2
        go_ret2
        refine ⟨?_, H.out.2.2.1.trans (HW.out.1.mono (by omega))⟩
        rw [hp.out.1, HE.out.1, hp.out.2, HE.out.2, HR.out]
        rfl
    · obtain rfl : k = 11 := by omega
      go_wp2
      go_ret2
      refine ⟨?_, H.out.2.2.1⟩
      rw [hp.out.1, hp.out.2]
      rfl
end Go.Proofs.YtpkkomifenlkaaaGreat.Conf
