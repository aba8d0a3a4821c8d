import Derived.Test.YtnjcenbmdcogpaaGreatDoorPkR
import Derived.Test.YtnjcenbmdcogpaaGreatDoorTextRef
import Derived.Deep.Cut
/- The page's Right and Put of a packet. -/
namespace Go.Proofs.YtnjcenbmdcogpaaGreatDoor.Packet
open Go.RowKit Num Texts

set_option maxHeartbeats 1000000 in
theorem rright_yes (p : P5) (h : p.right) (w : World) :
    Calls Tryz.prog 38 #[.agg #[.int .i64 p.c, .int .i64 p.f, .int .u64 p.s, .int .u64 p.t, .string p.d]] w fun e w' => e = .returned (.bool true) ∧ Below w.heap.size w w' := by
  obtain ⟨h0, h1, h2, h3⟩ := h
  have h1 : p.c ≤ 3 := by omega
  have h3 : (p.d.size : Int) ≤ 64 := by omega
  rcases h2 with h2 | h2
  · go_enter Tryz.func38, Tryz.ntmps38
    go_wp2
    go_ret
    exact ⟨rfl, (Below.refl _ _).alloc (Nat.le_refl _) _⟩
  · go_enter Tryz.func38, Tryz.ntmps38
    go_wp2
    go_ret
    exact ⟨rfl, (Below.refl _ _).alloc (Nat.le_refl _) _⟩

set_option maxHeartbeats 1000000 in
theorem rright_no (p : P5) (h : ¬ p.right) (w : World) :
    Calls Tryz.prog 38 #[.agg #[.int .i64 p.c, .int .i64 p.f, .int .u64 p.s, .int .u64 p.t, .string p.d]] w fun e w' => e = .returned (.bool false) ∧ Below w.heap.size w w' := by
  rcases (show p.c < 0 ∨ (0 ≤ p.c ∧ 3 < p.c) ∨ (0 ≤ p.c ∧ p.c ≤ 3 ∧ p.f < 0) ∨ (0 ≤ p.c ∧ p.c ≤ 3 ∧ 0 ≤ p.f ∧ 1 < p.f) ∨ (0 ≤ p.c ∧ p.c ≤ 3 ∧ 0 ≤ p.f ∧ p.f ≤ 1 ∧ (64 : Int) < (p.d.size : Int)) from by
    by_cases h0 : p.c < 0
    · exact .inl h0
    · by_cases h1 : 3 < p.c
      · exact .inr (.inl ⟨by omega, h1⟩)
      · by_cases h2 : p.f < 0
        · exact .inr (.inr (.inl ⟨by omega, by omega, h2⟩))
        · by_cases h3 : 1 < p.f
          · exact .inr (.inr (.inr (.inl ⟨by omega, by omega, by omega, h3⟩)))
          · refine .inr (.inr (.inr (.inr ⟨by omega, by omega, by omega, by omega, ?_⟩)))
            by_cases h4 : p.d.size ≤ 64
            · exact absurd ⟨by omega, by omega, by omega, h4⟩ h
            · omega) with h0 | ⟨h0, h1⟩ | ⟨h0, h1, h2⟩ | ⟨h0, h1, h2, h3⟩ | ⟨h0, h1, h2, h3, h4⟩
  · clear h
    go_enter Tryz.func38, Tryz.ntmps38
    go_wp2
    go_ret
    exact ⟨rfl, (Below.refl _ _).alloc (Nat.le_refl _) _⟩
  · clear h
    go_enter Tryz.func38, Tryz.ntmps38
    go_wp2
    go_ret
    exact ⟨rfl, (Below.refl _ _).alloc (Nat.le_refl _) _⟩
  · clear h
    go_enter Tryz.func38, Tryz.ntmps38
    go_wp2
    go_ret
    exact ⟨rfl, (Below.refl _ _).alloc (Nat.le_refl _) _⟩
  · clear h
    go_enter Tryz.func38, Tryz.ntmps38
    go_wp2
    go_ret
    exact ⟨rfl, (Below.refl _ _).alloc (Nat.le_refl _) _⟩
  · have h5 : decide ((p.d.size : Int) ≤ 64) = false := decide_eq_false (by omega)
    clear h
    go_enter Tryz.func38, Tryz.ntmps38
    go_wp2
    go_ret
    exact ⟨by rw [← h5]; rfl, (Below.refl _ _).alloc (Nat.le_refl _) _⟩

set_option maxRecDepth 20000 in
set_option maxHeartbeats 1000000 in
theorem rput_yes (p : P5) (h : p.right) (ho : p.ok) (w : World) :
    Calls Tryz.prog 50 #[.agg #[.int .i64 p.c, .int .i64 p.f, .int .u64 p.s, .int .u64 p.t, .string p.d]] w fun e w' => e = .returned (.string p.bytes) ∧ Below w.heap.size w w' := by
  have k2 := add_run Tryz.prog
  have k3 := add_run3 Tryz.prog
  have k4 := add_run4 Tryz.prog
  have k5 := fun w x y z u => add_run5 Tryz.prog w x y z u p.d h.2.2.2
  obtain ⟨h0, h1, h2, h3⟩ := h
  obtain ⟨s0, s1, t0, t1, _⟩ := ho
  have f0 : 0 ≤ p.f := by omega
  have f1 : p.f < 4 := by omega
  have hcw : IntKind.u64.wrap p.c = p.c := IntWalk.u64_in _ ⟨by omega, by omega⟩
  have hfw : IntKind.u64.wrap p.f = p.f := IntWalk.u64_in _ ⟨by omega, by omega⟩
  have hd1 : p.d.size ≤ 9223372036854775807 := by omega
  have ht : ∀ w, Calls Tryz.prog 62 #[.string p.d] w fun e w' => e = .returned (.string (textB p.d)) ∧ Below w.heap.size w w' := fun w => ref_text_any p.d w (by omega)
  have HT := Lib.hid ht
  clear h2 hd1 ht
  go_enter Tryz.func50, Tryz.ntmps50
  go_upto_region 1 with fail
  have hp0 := PBox.new w p 24
  obtain ⟨w1, hw1⟩ : ∃ X, X = w.alloc (.cells #[.int .i64 p.c, .int .i64 p.f, .int .u64 p.s, .int .u64 p.t, .string p.d] 24) := ⟨_, rfl⟩
  rw [← hw1] at hp0 ⊢
  clear hw1
  go_region_held3 (fun w' => w.heap.size < w'.heap.size ∧ Below w.heap.size w w' ∧ w'.cell? ⟨w.heap.size, 0, none⟩ = some (.int .i64 p.c) ∧ w'.cell? ⟨w.heap.size, 1, none⟩ = some (.int .i64 p.f) ∧ w'.cell? ⟨w.heap.size, 2, none⟩ = some (.int .u64 p.s) ∧ w'.cell? ⟨w.heap.size, 3, none⟩ = some (.int .u64 p.t) ∧ w'.cell? ⟨w.heap.size, 4, none⟩ = some (.string p.d))
    (first | assumption | exact hp0 | exact PBox.drew (by assumption) | exact PBox.drew hp0 | exact PBox.call (by assumption) hb1 | exact PBox.call (PBox.drew hp0) hb1)
    (first
      | (go_at_call 49; ((with_reducible refine (ref_num_int _ (by first | assumption | omega) (by first | assumption | omega) _).mono ?_); rintro e w1 ⟨rfl, hb1⟩))
      | (go_at_call 62; ((with_reducible refine (HT.out _).mono ?_); rintro e w1 ⟨rfl, hb1⟩)))
  go_wp2
  go_ret
  obtain ⟨_, hB, _⟩ : _ ∧ Below w.heap.size w w1 ∧ _ := by assumption
  exact ⟨rfl, hB⟩
end Go.Proofs.YtnjcenbmdcogpaaGreatDoor.Packet
