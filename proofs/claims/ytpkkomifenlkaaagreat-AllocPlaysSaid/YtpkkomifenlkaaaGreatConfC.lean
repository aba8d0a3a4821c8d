import Derived.Test.YtpkkomifenlkaaaGreatConf
/- conf.fields: the row of fields. -/
namespace Go.Proofs.YtpkkomifenlkaaaGreat.Conf
open Go.RowKit

/-- At block b lies the row of fields. -/
def Fields (w : World) (b : Nat) (p : Nat → Nat) : Prop :=
  b < w.heap.size ∧ ∀ k, k < 11 → w.cell? ⟨b, 0 + k * 2, none⟩ = some (.string (word k)) ∧ w.cell? ⟨b, 0 + k * 2 + 1, none⟩ = some (clo (p k)) ∧ Cap w (p k) (lo k) (hi k) (fn k)

set_option maxRecDepth 20000 in
set_option maxHeartbeats 2000000 in
theorem fields_any (w : World) :
    Calls Tryz.prog 54 #[] w fun e w' => ∃ b p, e = .returned (.slice (some ⟨b, 0, none⟩) 11 11) ∧ Fields w' b p ∧ Below w.heap.size w w' := by
  have hmf : ∀ (fn : Fn) (first cap : Array Value) (w : World), (Instr.makeFunc fn first cap).run Tryz.prog w = .ok (.func fn first cap) w := fun _ _ _ _ => rfl
  go_enter Tryz.func54, Tryz.ntmps54
  go_wp2_with fail
  refine (one_any _ _ _ _ _).mono ?_
  rintro e w1 ⟨rfl, b1, p1⟩
  have s1 := b1.size
  go_wp2_with fail
  refine (one_any _ _ _ _ _).mono ?_
  rintro e w2 ⟨rfl, b2, p2⟩
  have s2 := b2.size
  go_wp2_with fail
  refine (one_any _ _ _ _ _).mono ?_
  rintro e w3 ⟨rfl, b3, p3⟩
  have s3 := b3.size
  go_wp2_with fail
  refine (one_any _ _ _ _ _).mono ?_
  rintro e w4 ⟨rfl, b4, p4⟩
  have s4 := b4.size
  go_wp2_with fail
  refine (one_any _ _ _ _ _).mono ?_
  rintro e w5 ⟨rfl, b5, p5⟩
  have s5 := b5.size
  go_wp2_with fail
  refine (one_any _ _ _ _ _).mono ?_
  rintro e w6 ⟨rfl, b6, p6⟩
  have s6 := b6.size
  go_wp2_with fail
  refine (one_any _ _ _ _ _).mono ?_
  rintro e w7 ⟨rfl, b7, p7⟩
  have s7 := b7.size
  go_wp2_with fail
  refine (one_any _ _ _ _ _).mono ?_
  rintro e w8 ⟨rfl, b8, p8⟩
  have s8 := b8.size
  go_wp2_with fail
  refine (one_any _ _ _ _ _).mono ?_
  rintro e w9 ⟨rfl, b9, p9⟩
  have s9 := b9.size
  go_wp2_with fail
  refine (one_any _ _ _ _ _).mono ?_
  rintro e w10 ⟨rfl, b10, p10⟩
  have s10 := b10.size
  go_wp2_with fail
  refine (one_any _ _ _ _ _).mono ?_
  rintro e w11 ⟨rfl, b11, p11⟩
  have s11 := b11.size
  have P11 := Lib.hid p11
  have P1 := Lib.hid ((((((((((p1.below b2).below b3).below b4).below b5).below b6).below b7).below b8).below b9).below b10).below b11)
  have P2 := Lib.hid (((((((((p2.below b3).below b4).below b5).below b6).below b7).below b8).below b9).below b10).below b11)
  have P3 := Lib.hid ((((((((p3.below b4).below b5).below b6).below b7).below b8).below b9).below b10).below b11)
  have P4 := Lib.hid (((((((p4.below b5).below b6).below b7).below b8).below b9).below b10).below b11)
  have P5 := Lib.hid ((((((p5.below b6).below b7).below b8).below b9).below b10).below b11)
  have P6 := Lib.hid (((((p6.below b7).below b8).below b9).below b10).below b11)
  have P7 := Lib.hid ((((p7.below b8).below b9).below b10).below b11)
  have P8 := Lib.hid (((p8.below b9).below b10).below b11)
  have P9 := Lib.hid ((p9.below b10).below b11)
  have P10 := Lib.hid (p10.below b11)
  have HB := Lib.hid ((((((((((((Below.refl w.heap.size w).trans (b1.mono (by omega))).trans (b2.mono (by omega))).trans (b3.mono (by omega))).trans (b4.mono (by omega))).trans (b5.mono (by omega))).trans (b6.mono (by omega))).trans (b7.mono (by omega))).trans (b8.mono (by omega))).trans (b9.mono (by omega))).trans (b10.mono (by omega))).trans (b11.mono (by omega)))
  clear p1 b1 p2 b2 p3 b3 p4 b4 p5 b5 p6 b6 p7 b7 p8 b8 p9 b9 p10 b10 p11 b11
  go_wp2
  go_ret
  refine ⟨w11.heap.size, fun | 0 => w.heap.size | 1 => w1.heap.size | 2 => w2.heap.size | 3 => w3.heap.size | 4 => w4.heap.size | 5 => w5.heap.size | 6 => w6.heap.size | 7 => w7.heap.size | 8 => w8.heap.size | 9 => w9.heap.size | _ => w10.heap.size, rfl, ⟨by simp, fun k hk => ?_⟩, HB.out.alloc (by omega) _⟩
  match k, hk with
  | 0, _ => exact ⟨cell_of_row _ _ 0 _ _ (0, 0) (heap_alloc_at w11 _ _ _ rfl), cell_of_row _ _ 1 _ _ (0, 0) (heap_alloc_at w11 _ _ _ rfl), P1.out.below ((Below.refl _ _).alloc (Nat.le_refl _) _)⟩
  | 1, _ => exact ⟨cell_of_row _ _ 2 _ _ (0, 0) (heap_alloc_at w11 _ _ _ rfl), cell_of_row _ _ 3 _ _ (0, 0) (heap_alloc_at w11 _ _ _ rfl), P2.out.below ((Below.refl _ _).alloc (Nat.le_refl _) _)⟩
  | 2, _ => exact ⟨cell_of_row _ _ 4 _ _ (0, 0) (heap_alloc_at w11 _ _ _ rfl), cell_of_row _ _ 5 _ _ (0, 0) (heap_alloc_at w11 _ _ _ rfl), P3.out.below ((Below.refl _ _).alloc (Nat.le_refl _) _)⟩
  | 3, _ => exact ⟨cell_of_row _ _ 6 _ _ (0, 0) (heap_alloc_at w11 _ _ _ rfl), cell_of_row _ _ 7 _ _ (0, 0) (heap_alloc_at w11 _ _ _ rfl), P4.out.below ((Below.refl _ _).alloc (Nat.le_refl _) _)⟩
  | 4, _ => exact ⟨cell_of_row _ _ 8 _ _ (0, 0) (heap_alloc_at w11 _ _ _ rfl), cell_of_row _ _ 9 _ _ (0, 0) (heap_alloc_at w11 _ _ _ rfl), P5.out.below ((Below.refl _ _).alloc (Nat.le_refl _) _)⟩
  | 5, _ => exact ⟨cell_of_row _ _ 10 _ _ (0, 0) (heap_alloc_at w11 _ _ _ rfl), cell_of_row _ _ 11 _ _ (0, 0) (heap_alloc_at w11 _ _ _ rfl), P6.out.below ((Below.refl _ _).alloc (Nat.le_refl _) _)⟩
  | 6, _ => exact ⟨cell_of_row _ _ 12 _ _ (0, 0) (heap_alloc_at w11 _ _ _ rfl), cell_of_row _ _ 13 _ _ (0, 0) (heap_alloc_at w11 _ _ _ rfl), P7.out.below ((Below.refl _ _).alloc (Nat.le_refl _) _)⟩
  | 7, _ => exact ⟨cell_of_row _ _ 14 _ _ (0, 0) (heap_alloc_at w11 _ _ _ rfl), cell_of_row _ _ 15 _ _ (0, 0) (heap_alloc_at w11 _ _ _ rfl), P8.out.below ((Below.refl _ _).alloc (Nat.le_refl _) _)⟩
  | 8, _ => exact ⟨cell_of_row _ _ 16 _ _ (0, 0) (heap_alloc_at w11 _ _ _ rfl), cell_of_row _ _ 17 _ _ (0, 0) (heap_alloc_at w11 _ _ _ rfl), P9.out.below ((Below.refl _ _).alloc (Nat.le_refl _) _)⟩
  | 9, _ => exact ⟨cell_of_row _ _ 18 _ _ (0, 0) (heap_alloc_at w11 _ _ _ rfl), cell_of_row _ _ 19 _ _ (0, 0) (heap_alloc_at w11 _ _ _ rfl), P10.out.below ((Below.refl _ _).alloc (Nat.le_refl _) _)⟩
  | 10, _ => exact ⟨cell_of_row _ _ 20 _ _ (0, 0) (heap_alloc_at w11 _ _ _ rfl), cell_of_row _ _ 21 _ _ (0, 0) (heap_alloc_at w11 _ _ _ rfl), P11.out.below ((Below.refl _ _).alloc (Nat.le_refl _) _)⟩
end Go.Proofs.YtpkkomifenlkaaaGreat.Conf
/- conf.Check: the first field that isn't right. -/
namespace Go.Proofs.YtpkkomifenlkaaaGreat.Conf
open Go.RowKit

def wrong (c : Cfg) : Nat → Nat → ByteArray
  | 0, _ => ⟨#[]⟩
  | n + 1, k => if right (c.at k) (lo k) (hi k) then wrong c n (k + 1) else word k
def code (c : Cfg) : Nat → Nat → Int
  | 0, _ => 0
  | n + 1, k => if right (c.at k) (lo k) (hi k) then code c n (k + 1) else 1

theorem Fields.below {w w' : World} {b : Nat} {p : Nat → Nat} (h : Fields w b p) (hb : Below w.heap.size w w') : Fields w' b p :=
  ⟨Nat.lt_of_lt_of_le h.1 hb.size, fun k hk => ⟨(hb.cell (p := ⟨b, 0 + k * 2, none⟩) h.1).trans (h.2 k hk).1, (hb.cell (p := ⟨b, 0 + k * 2 + 1, none⟩) h.1).trans (h.2 k hk).2.1, (h.2 k hk).2.2.below hb⟩⟩

set_option maxRecDepth 20000 in
set_option maxHeartbeats 2000000 in
theorem check_any (c : Cfg) (w : World) :
    Calls Tryz.prog 33 #[.agg c.cells] w fun e w' => e = .returned (.tuple #[.string (wrong c 11 0), .int .i64 (code c 11 0)]) ∧ Below w.heap.size w w' := by
  have hin := fun k hk p W l h hc => inner_any c k hk p W l h hc
  have HI := Lib.hid hin
  clear hin
  have hcc : c.cells = #[.slice c.A c.n c.cap, .int .i64 c.f1, .int .i64 c.f2, .int .i64 c.f3, .int .i64 c.f4, .int .i64 c.f5, .int .i64 c.f6, .int .i64 c.f7, .int .i64 c.f8, .int .i64 c.f9, .int .i64 c.f10, .int .u64 c.f11] := rfl
  rw [hcc] at *
  go_enter Tryz.func33, Tryz.ntmps33
  go_wp2_with fail
  refine (fields_any _).mono ?_
  rintro e w1 ⟨b, p, rfl, hf, hb⟩
  have h0 : w1.heap[w.heap.size]? = some (.cells c.cells 42 (0, 0)) := (hb.block _ (by simp)).trans (heap_alloc_new w _)
  have hz : w.heap.size < w1.heap.size := by have := hb.size; simp at this; omega
  have hB : Below w.heap.size w w1 := ((Below.refl _ _).alloc (Nat.le_refl _) _).trans (hb.mono (by simp))
  have H0 := Lib.hid (And.intro h0 (And.intro hz (And.intro hB hf)))
  clear h0 hz hB hf hb
  go_wp2
  go_loopw [8] (fun i wr => ∃ k : Nat, i = .int .i64 (k : Int) ∧ k ≤ 11 ∧ Hid (wrong c 11 0 = wrong c (11 - k) k ∧ code c 11 0 = code c (11 - k) k) ∧ Hid (wr.heap[w.heap.size]? = some (.cells c.cells 42 (0, 0)) ∧ w.heap.size < wr.heap.size ∧ Below w.heap.size w wr ∧ Fields wr b p))
    (fun i _ => 11 - (intOf i).toNat)
  case atStart => exact ⟨0, rfl, by decide, Lib.hid ⟨rfl, rfl⟩, H0⟩
  case round =>
    obtain ⟨k, rfl, hk, hp, H⟩ := hrel
    by_cases hlt : k < 11
    · obtain ⟨c0, c1, hcap⟩ := H.out.2.2.2.2 k hlt
      unfold clo at c1
      rw [Nat.zero_add] at c0 c1
      have x0 : wr.cell? ⟨w.heap.size, 0, none⟩ = some (.slice c.A c.n c.cap) := cell_of_row wr _ 0 _ _ (0, 0) H.out.1
      have x1 : wr.cell? ⟨w.heap.size, 1, none⟩ = some (.int .i64 c.f1) := cell_of_row wr _ 1 _ _ (0, 0) H.out.1
      have x2 : wr.cell? ⟨w.heap.size, 2, none⟩ = some (.int .i64 c.f2) := cell_of_row wr _ 2 _ _ (0, 0) H.out.1
      have x3 : wr.cell? ⟨w.heap.size, 3, none⟩ = some (.int .i64 c.f3) := cell_of_row wr _ 3 _ _ (0, 0) H.out.1
      have x4 : wr.cell? ⟨w.heap.size, 4, none⟩ = some (.int .i64 c.f4) := cell_of_row wr _ 4 _ _ (0, 0) H.out.1
      have x5 : wr.cell? ⟨w.heap.size, 5, none⟩ = some (.int .i64 c.f5) := cell_of_row wr _ 5 _ _ (0, 0) H.out.1
      have x6 : wr.cell? ⟨w.heap.size, 6, none⟩ = some (.int .i64 c.f6) := cell_of_row wr _ 6 _ _ (0, 0) H.out.1
      have x7 : wr.cell? ⟨w.heap.size, 7, none⟩ = some (.int .i64 c.f7) := cell_of_row wr _ 7 _ _ (0, 0) H.out.1
      have x8 : wr.cell? ⟨w.heap.size, 8, none⟩ = some (.int .i64 c.f8) := cell_of_row wr _ 8 _ _ (0, 0) H.out.1
      have x9 : wr.cell? ⟨w.heap.size, 9, none⟩ = some (.int .i64 c.f9) := cell_of_row wr _ 9 _ _ (0, 0) H.out.1
      have x10 : wr.cell? ⟨w.heap.size, 10, none⟩ = some (.int .i64 c.f10) := cell_of_row wr _ 10 _ _ (0, 0) H.out.1
      have x11 : wr.cell? ⟨w.heap.size, 11, none⟩ = some (.int .u64 c.f11) := cell_of_row wr _ 11 _ _ (0, 0) H.out.1
      have hw := H.out.2.1
      have HC := Lib.hid hcap
      clear hcap
      go_wp2_with fail
      refine (HI.out k hlt (p k) _ _ _ (HC.out.below ((Below.refl _ _).alloc (Nat.le_refl _) _))).mono ?_
      rintro e w2 ⟨rfl, hb2⟩
      have d0 : w2.cell? ⟨wr.heap.size, 0, none⟩ = some (.string (word k)) := (hb2.cell (p := ⟨wr.heap.size, 0, none⟩) (by simp)).trans (by simp)
      have hBr : Below wr.heap.size wr w2 := ((Below.refl _ _).alloc (Nat.le_refl _) _).trans (hb2.mono (by simp))
      have hsz := hBr.size
      have HW := Lib.hid (And.intro hBr hb2)
      have e1 : wrong c (11 - k) k = if right (c.at k) (lo k) (hi k) then wrong c (11 - (k + 1)) (k + 1) else word k := by
        rw [show 11 - k = 11 - (k + 1) + 1 from by omega, wrong]
      have e2 : code c (11 - k) k = if right (c.at k) (lo k) (hi k) then code c (11 - (k + 1)) (k + 1) else 1 := by
        rw [show 11 - k = 11 - (k + 1) + 1 from by omega, code]
      have HE := Lib.hid (And.intro e1 e2)
      clear e1 e2 hBr hb2 x0 x1 x2 x3 x4 x5 x6 x7 x8 x9 x10 x11 c0 c1 HC
      by_cases hr : right (c.at k) (lo k) (hi k) = true
      · have HR := Lib.hid hr
        rw [hr]
        clear hr
        go_wp2
        refine ⟨⟨k + 1, by go_num, by omega, Lib.hid ⟨?_, ?_⟩, Lib.hid ⟨(HW.out.1.block _ H.out.2.1).trans H.out.1, by omega, H.out.2.2.1.trans (HW.out.1.mono (by omega)), H.out.2.2.2.below HW.out.1⟩⟩, by simp [intOf]; omega⟩
        · rw [hp.out.1, HE.out.1, if_pos HR.out]
        · rw [hp.out.2, HE.out.2, if_pos HR.out]
      · have hr : right (c.at k) (lo k) (hi k) = false := by simpa using hr
        have HR := Lib.hid hr
        rw [hr]
        clear hr
        go_wp2
        go_ret2
        refine ⟨?_, H.out.2.2.1.trans (HW.out.1.mono (by omega))⟩
        rw [hp.out.1, HE.out.1, hp.out.2, HE.out.2, HR.out]
        rfl
    · obtain rfl : k = 11 := by omega
      go_wp2
      go_ret2
      refine ⟨?_, H.out.2.2.1⟩
      rw [hp.out.1, hp.out.2]
      rfl
end Go.Proofs.YtpkkomifenlkaaaGreat.Conf
