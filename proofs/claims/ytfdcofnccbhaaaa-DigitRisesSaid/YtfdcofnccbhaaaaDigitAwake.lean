/- The page's examples of layer 1, in any world. -/
import Derived.Test.YtfdcofnccbhaaaaTexts
import Derived.LoopN
namespace Go.Proofs.Ytfdcofnccbhaaaa.DigitAwake
open Go.RowKit Num Bld Texts

theorem num_0 : numS 0 = ⟨#[0]⟩ := by simp [numS, dig_zero, strOfNums]; rfl
theorem num_300 : numS 300 = ⟨#[2, 1, 44]⟩ := by
  have h : dig 300 = [1, 44] := by rw [dig_pos (by decide), dig_pos (by decide), show 300 / 256 / 256 = 0 from rfl, dig_zero]; rfl
  simp [numS, h, strOfNums]; rfl
theorem text_ab : textL ⟨#[97, 98]⟩ = [1, 2, 97, 98] := by
  have h : dig 2 = [2] := by rw [dig_pos (by decide), show 2 / 256 = 0 from rfl, dig_zero]; rfl
  have e : (ByteArray.mk #[97, 98]).size = 2 := rfl
  simp [textL, numS, e, h, strOfNums]

set_option maxRecDepth 20000 in
set_option maxHeartbeats 1000000 in
theorem number_17 (g : Nat) (w : World) (c0 : w.cell? ⟨g, 0, none⟩ = some (.string ⟨#[1, 7]⟩)) (f0 : w.frozen? ⟨g, 0, none⟩ = false) :
    Calls Try.prog 85 #[.pointer (some ⟨g, 0, none⟩), .int .u64 9] w fun e w' => e = .returned (.tuple #[.int .u64 7, .int .i64 0]) ∧ w' = w.setCell ⟨g, 0, none⟩ (.string ((⟨#[1, 7]⟩ : ByteArray).extract 2 2)) := by
  have e0 : ∀ h, ((⟨#[1, 7]⟩ : ByteArray)[0]'h).toNat = 1 := fun _ => rfl
  have e1 : ∀ h, ((⟨#[1, 7]⟩ : ByteArray)[1]'h).toNat = 7 := fun _ => rfl
  go_enter Try.func85, Try.ntmps85
  go_wp2
  refine wp_loop_rounds 2 ?_
  rw [rounds_succ]
  go_wp2
  rw [rounds_succ]
  go_wp2
  go_ret2
  exact ⟨rfl, rfl⟩
set_option maxRecDepth 20000 in
set_option maxHeartbeats 1000000 in
theorem read_17 (w : World) :
    Calls Try.prog 20 #[.pointer (some ⟨w.heap.size, 0, none⟩), .int .u64 9] (w.alloc (.cells #[.string ⟨#[1, 7]⟩, .int .i64 0] 127)) fun e w' => e = .returned (.int .u64 7) ∧ Below w.heap.size w w' := by
  go_enter Try.func20, Try.ntmps20
  go_wp2_with (first | (go_at_call 85; refine (number_17 _ _ ?_ ?_).mono ?_) | go_in)
  · go_simp
  · go_simp
  rintro e w4 ⟨rfl, rfl⟩
  go_wp2
  go_end0
  go_wp2
  refine bodyPost_ret (v := .int .u64 7) (by simp [results, Try.results20, go_sem]) rfl ⟨rfl, ?_⟩
  exact ((((Below.refl _ _).alloc (Nat.le_refl _) _).alloc (by simp) _).alloc (by simp; omega) _).alloc (by simp; omega) _

set_option maxRecDepth 20000 in
set_option maxHeartbeats 1000000 in
theorem awake_any (w : World) : Calls Try.prog 13 #[] w fun e w' => e = .returned (.bool true) ∧ Below w.heap.size w w' := by
  have n0 := fun W => num_any 0 (by decide) W
  have n1 := fun W => num_any 300 (by decide) W
  have n2 := fun W => text_any ⟨#[97, 98]⟩ W (by decide) (by rw [text_ab]; decide)
  rw [num_0] at n0
  rw [num_300] at n1
  rw [text_ab] at n2
  have N0 := Lib.hid n0; have N1 := Lib.hid n1; have N2 := Lib.hid n2; clear n0 n1 n2
  go_enter Try.func13, Try.ntmps13
  go_wp2_with fail
  refine (N0.out _).mono ?_
  rintro e w1 ⟨rfl, b1⟩
  go_wp2_with fail
  refine (N1.out _).mono ?_
  rintro e w2 ⟨rfl, b2⟩
  go_wp2_with fail
  refine (N2.out _).mono ?_
  rintro e w3 ⟨rfl, b3⟩
  have B3 := Lib.hid (b1.trans ((b2.mono b1.size).trans (b3.mono (Nat.le_trans b1.size b2.size))))
  clear b1 b2 b3
  go_wp2_with (first | (go_at_call 20; refine (read_17 _).mono ?_; rintro e w4 ⟨rfl, b4⟩) | go_in)
  go_ret
  exact ⟨rfl, B3.out.trans (b4.mono B3.out.size)⟩
end Go.Proofs.Ytfdcofnccbhaaaa.DigitAwake
