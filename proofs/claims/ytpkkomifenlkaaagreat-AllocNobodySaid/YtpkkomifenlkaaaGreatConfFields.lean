/- conf.fields: the row of fields. -/
import Derived.Test.YtpkkomifenlkaaaGreatConf
namespace Go.Proofs.YtpkkomifenlkaaaGreat.Conf
open Go.RowKit

/-- At block b lies the row of fields. -/
def Fields (w : World) (b : Nat) (p : Nat → Nat) : Prop :=
  b < w.heap.size ∧ ∀ k, k < 11 → w.cell? ⟨b, 0 + k * 2, none⟩ = some (.string (word k)) ∧ w.cell? ⟨b, 0 + k * 2 + 1, none⟩ = some (clo (p k)) ∧ Cap w (p k) (lo k) (hi k) (fn k)

set_option maxRecDepth 20000 in
set_option maxHeartbeats 2000000 in
theorem fields_any (w : World) :
    Calls Tryz.prog 54 #[] w fun e w' => ∃ b p, e = .returned (.slice (some ⟨b, 0, none⟩) 11 11) ∧ Fields w' b p ∧ Below w.heap.size w w' := by
  have hmf : ∀ (fn : Fn) (first cap : Array Value) (w : World), (Instr.makeFunc fn first cap).run Tryz.prog w = .ok (.func fn first cap) w := fun _ _ _ _ => rfl
  go_enter Tryz.func54, Tryz.ntmps54
  go_wp2_with fail
  refine (one_any _ _ _ _ _).mono ?_
  rintro e w1 ⟨rfl, b1, p1⟩
  have s1 := b1.size
  go_wp2_with fail
  refine (one_any _ _ _ _ _).mono ?_
  rintro e w2 ⟨rfl, b2, p2⟩
  have s2 := b2.size
  go_wp2_with fail
  refine (one_any _ _ _ _ _).mono ?_
  rintro e w3 ⟨rfl, b3, p3⟩
  have s3 := b3.size
  go_wp2_with fail
  refine (one_any _ _ _ _ _).mono ?_
  rintro e w4 ⟨rfl, b4, p4⟩
  have s4 := b4.size
  go_wp2_with fail
  refine (one_any _ _ _ _ _).mono ?_
  rintro e w5 ⟨rfl, b5, p5⟩
  have s5 := b5.size
  go_wp2_with fail
  refine (one_any _ _ _ _ _).mono ?_
  rintro e w6 ⟨rfl, b6, p6⟩
  have s6 := b6.size
  go_wp2_with fail
  refine (one_any _ _ _ _ _).mono ?_
  rintro e w7 ⟨rfl, b7, p7⟩
  have s7 := b7.size
  go_wp2_with fail
  refine (one_any _ _ _ _ _).mono ?_
  rintro e w8 ⟨rfl, b8, p8⟩
  have s8 := b8.size
  go_wp2_with fail
  refine (one_any _ _ _ _ _).mono ?_
  rintro e w9 ⟨rfl, b9, p9⟩
  have s9 := b9.size
  go_wp2_with fail
  refine (one_any _ _ _ _ _).mono ?_
  rintro e w10 ⟨rfl, b10, p10⟩
  have s10 := b10.size
  go_wp2_with fail
  refine (one_any _ _ _ _ _).mono ?_
  rintro e w11 ⟨rfl, b11, p11⟩
  have s11 := b11.size
  have P11 := Lib.hid p11
  have P1 := Lib.hid ((((((((((p1.below b2).below b3).below b4).below b5).below b6).below b7).below b8).below b9).below b10).below b11)
  have P2 := Lib.hid (((((((((p2.below b3).below b4).below b5).below b6).below b7).below b8).below b9).below b10).below b11)
  have P3 := Lib.hid ((((((((p3.below b4).below b5).below b6).below b7).below b8).below b9).below b10).below b11)
  have P4 := Lib.hid (((((((p4.below b5).below b6).below b7).below b8).below b9).below b10).below b11)
  have P5 := Lib.hid ((((((p5.below b6).below b7).below b8).below b9).below b10).below b11)
  have P6 := Lib.hid (((((p6.below b7).below b8).below b9).below b10).below b11)
  have P7 := Lib.hid ((((p7.below b8).below b9).below b10).below b11)
  have P8 := Lib.hid (((p8.below b9).below b10).below b11)
  have P9 := Lib.hid ((p9.below b10).below b11)
  have P10 := Lib.hid (p10.below b11)
  have HB := Lib.hid ((((((((((((Below.refl w.heap.size w).trans (b1.mono (by omega))).trans (b2.mono (by omega))).trans (b3.mono (by omega))).trans (b4.mono (by omega))).trans (b5.mono (by omega))).trans (b6.mono (by omega))).trans (b7.mono (by omega))).trans (b8.mono (by omega))).trans (b9.mono (by omega))).trans (b10.mono (by omega))).trans (b11.mono (by omega)))
  clear p1 b1 p2 b2 p3 b3 p4 b4 p5 b5 p6 b6 p7 b7 p8 b8 p9 b9 p10 b10 p11 b11
  go_wp2
  go_ret
  refine ⟨w11.heap.size, fun | 0 => w.heap.size | 1 => w1.heap.size | 2 => w2.heap.size | 3 => w3.heap.size | 4 => w4.heap.size | 5 => w5.heap.size | 6 => w6.heap.size | 7 => w7.heap.size | 8 => w8.heap.size | 9 => w9.heap.size | _ => w10.heap.size, rfl, ⟨by simp, fun k hk => ?_⟩, HB.out.alloc (by omega) _⟩
  match k, hk with
  | 0, _ => exact ⟨cell_of_row _ _ 0 _ _ (0, 0) (heap_alloc_at w11 _ _ _ rfl), cell_of_row _ _ 1 _ _ (0, 0) (heap_alloc_at w11 _ _ _ rfl), P1.out.below ((Below.refl _ _).alloc (Nat.le_refl _) _)⟩
  | 1, _ => exact ⟨cell_of_row _ _ 2 _ _ (0, 0) (heap_alloc_at w11 _ _ _ rfl), cell_of_row _ _ 3 _ _ (0, 0) (heap_alloc_at w11 _ _ _ rfl), P2.out.below ((Below.refl _ _).alloc (Nat.le_refl _) _)⟩
  | 2, _ => exact ⟨cell_of_row _ _ 4 _ _ (0, 0) (heap_alloc_at w11 _ _ _ rfl), cell_of_row _ _ 5 _ _ (0, 0) (heap_alloc_at w11 _ _ _ rfl), P3.out.below ((Below.refl _ _).alloc (Nat.le_refl _) _)⟩
  | 3, _ => exact ⟨cell_of_row _ _ 6 _ _ (0, 0) (heap_alloc_at w11 _ _ _ rfl), cell_of_row _ _ 7 _ _ (0, 0) (heap_alloc_at w11 _ _ _ rfl), P4.out.below ((Below.refl _ _).alloc (Nat.le_refl _) _)⟩
  | 4, _ => exact ⟨cell_of_row _ _ 8 _ _ (0, 0) (heap_alloc_at w11 _ _ _ rfl), cell_of_row _ _ 9 _ _ (0, 0) (heap_alloc_at w11 _ _ _ rfl), P5.out.below ((Below.refl _ _).alloc (Nat.le_refl _) _)⟩
  | 5, _ => exact ⟨cell_of_row _ _ 10 _ _ (0, 0) (heap_alloc_at w11 _ _ _ rfl), cell_of_row _ _ 11 _ _ (0, 0) (heap_alloc_at w11 _ _ _ rfl), P6.out.below ((Below.refl _ _).alloc (Nat.le_refl _) _)⟩
  | 6, _ => exact ⟨cell_of_row _ _ 12 _ _ (0, 0) (heap_alloc_at w11 _ _ _ rfl), cell_of_row _ _ 13 _ _ (0, 0) (heap_alloc_at w11 _ _ _ rfl), P7.out.below ((Below.refl _ _).alloc (Nat.le_refl _) _)⟩
  | 7, _ => exact ⟨cell_of_row _ _ 14 _ _ (0, 0) (heap_alloc_at w11 _ _ _ rfl), cell_of_row _ _ 15 _ _ (0, 0) (heap_alloc_at w11 _ _ _ rfl), P8.out.below ((Below.refl _ _).alloc (Nat.le_refl _) _)⟩
  | 8, _ => exact ⟨cell_of_row _ _ 16 _ _ (0, 0) (heap_alloc_at w11 _ _ _ rfl), cell_of_row _ _ 17 _ _ (0, 0) (heap_alloc_at w11 _ _ _ rfl), P9.out.below ((Below.refl _ _).alloc (Nat.le_refl _) _)⟩
  | 9, _ => exact ⟨cell_of_row _ _ 18 _ _ (0, 0) (heap_alloc_at w11 _ _ _ rfl), cell_of_row _ _ 19 _ _ (0, 0) (heap_alloc_at w11 _ _ _ rfl), P10.out.below ((Below.refl _ _).alloc (Nat.le_refl _) _)⟩
  | 10, _ => exact ⟨cell_of_row _ _ 20 _ _ (0, 0) (heap_alloc_at w11 _ _ _ rfl), cell_of_row _ _ 21 _ _ (0, 0) (heap_alloc_at w11 _ _ _ rfl), P11.out.below ((Below.refl _ _).alloc (Nat.le_refl _) _)⟩
end Go.Proofs.YtpkkomifenlkaaaGreat.Conf
