/- The page's example of a batch. -/
import Derived.Test.YtjjomlideieofaaBatchPut2
namespace Go.Proofs.Ytjjomlideieofaa.Msg
open Go Go.RowKit

abbrev xT : M7 := ⟨4, 0, 0, 0, 0, ⟨#[]⟩, ⟨#[]⟩⟩
abbrev xR : M7 := ⟨2, 0, 0, 0, 0, ⟨#[]⟩, ⟨#[]⟩⟩
theorem nil_list : (⟨#[]⟩ : ByteArray).toList = [] := by rw [ByteArray.toList, ByteArray.toList.loop]; rfl
theorem xT_right : mright xT = true := decide_eq_true ⟨rfl, by decide, .inr ⟨nil_list, .inr (.inl rfl)⟩⟩
theorem xR_right : mright xR = true := decide_eq_true ⟨rfl, by decide, .inr ⟨nil_list, .inl rfl⟩⟩

set_option maxRecDepth 100000 in
set_option maxHeartbeats 2000000 in
theorem awake27_any (w : World) : Calls Try.prog 26 #[] w fun e w' => e = .returned (.bool true) ∧ Below w.heap.size w w' := by
  go_enter Try.func26, Try.ntmps26
  go_wp2_with fail
  refine (new_ok 2 3 w (by decide) (by decide) (by decide) (by decide)).mono ?_
  rintro e w1 ⟨rfl, hw1⟩
  have h0 := Lib.hid (show Bt w1 w.heap.size w.heap.size 2 3 (.slice none 0 0) 0 [] ∧ Below w.heap.size w w1 from by rw [hw1]; exact ⟨Bt.new w _ (Nat.le_refl _) 2 3, (Below.refl _ _).alloc (Nat.le_refl _) _⟩)
  clear hw1
  go_wp2_with fail
  have h1 := Lib.hid (show Bt (w1.alloc (.cells #[.int .i64 4, .int .i64 0, .int .i64 0, .int .u64 0, .int .u64 0, .string ⟨#[]⟩, .string ⟨#[]⟩] TM)) w.heap.size w.heap.size 2 3 (.slice none 0 0) 0 [] ∧ Below w.heap.size w (w1.alloc (.cells #[.int .i64 4, .int .i64 0, .int .i64 0, .int .u64 0, .int .u64 0, .string ⟨#[]⟩, .string ⟨#[]⟩] TM)) from ⟨h0.out.1.below ((Below.refl _ _).alloc (Nat.le_refl _) _), h0.out.2.alloc h0.out.2.size _⟩)
  refine (add_first h1.out.1 xT 5 xT_right (by decide) rfl (by decide) rfl).mono ?_
  rintro e w2 ⟨rfl, v2, hb2, -, -, hl2⟩
  have h2 := Lib.hid (And.intro hb2 (h1.out.2.trans hl2))
  clear hb2 hl2
  go_wp2_with fail
  refine (due_any (now := 7) h2.out.1 (by decide) (by decide) (by decide) (by decide) (by decide) (by decide)).mono ?_
  rintro e w3 ⟨rfl, q3, rfl⟩
  rw [show due 2 3 5 7 (([] : List M7) ++ [xT]).length = false from by decide]
  go_wp2_with fail
  refine (due_any (now := 8) (h2.out.1.drewN q3) (by decide) (by decide) (by decide) (by decide) (by decide) (by decide)).mono ?_
  rintro e w3 ⟨rfl, q4, rfl⟩
  rw [show due 2 3 5 8 (([] : List M7) ++ [xT]).length = true from by decide]
  have h3 := Lib.hid (show Bt ((w2.drewN q3).drewN q4) w.heap.size w.heap.size 2 3 v2 5 ([] ++ [xT]) ∧ Below w.heap.size w ((w2.drewN q3).drewN q4) from ⟨h2.out.1, below_drewN (below_drewN h2.out.2 _) _⟩)
  generalize (w2.drewN q3).drewN q4 = w3 at h3 ⊢
  go_wp2_with fail
  refine (add_more h3.out.1 xR 6 xR_right (by decide) rfl (by decide) (by decide)).mono ?_
  rintro e w4 ⟨rfl, v4, hb4, -, -, hl4⟩
  have h4 := Lib.hid (And.intro hb4 (h3.out.2.trans hl4))
  clear hb4 hl4
  go_wp2_with fail
  refine (due_any (now := 0) h4.out.1 (by decide) (by decide) (by decide) (by decide) (by decide) (by decide)).mono ?_
  rintro e w5 ⟨rfl, q5, rfl⟩
  rw [show due 2 3 5 0 (([] : List M7) ++ [xT] ++ [xR]).length = true from by decide]
  go_wp2
  go_ret
  exact ⟨rfl, below_drewN h4.out.2 _⟩
end Go.Proofs.Ytjjomlideieofaa.Msg
