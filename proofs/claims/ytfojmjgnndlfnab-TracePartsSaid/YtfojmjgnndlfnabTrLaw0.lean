/- TraceParts: the page's Wrong whole; Few; the page's example. -/
import Derived.Test.YtfojmjgnndlfnabTrCheck
import Derived.Test.YtfojmjgnndlfnabTrRefK1
import Derived.Test.YtfojmjgnndlfnabTrRefK2
import Derived.Test.YtfojmjgnndlfnabTrRefK3
import Derived.Test.YtfojmjgnndlfnabTrRefK4
import Derived.Test.YtfojmjgnndlfnabTrRefK5
namespace Go.Proofs.Ytfojmjgnndlfnab.Tr
open Go Go.RowKit
set_option linter.unusedVariables false

theorem rwrong_any (x : Mk) (ht : 0 ≤ x.t) {w : World} {O A : Option Addr} {on ocap n cap : Nat} {ord : Nat → Bool} {f : Nat → Mk} (hC : Cx w O on ord A n f) :
    Calls Try.prog 8 #[.slice O on ocap, .slice A n cap, .agg #[.int .i64 x.sd, .int .i64 x.k, .int .u64 x.h, .int .i64 x.c, .int .i64 x.f, .int .u64 x.s, .int .u64 x.t, .string x.d, .string x.a]] w fun e w' => e = .returned (.int .i64 (wrongF ord on f n x)) ∧ Below w.heap.size w w' := by
  cases hf : formedB on x with
  | false => exact rwrong_none x hC hf
  | true =>
    have he : eright x = true := by unfold formedB at hf; simp only [Bool.and_eq_true] at hf; exact hf.1.2
    rcases eright_kind he with h | h | h | h | h
    · exact rwrong_1 x hC hf h
    · exact rwrong_2 x hC hf h ht
    · exact rwrong_3 x hC hf h
    · exact rwrong_4 x hC hf h
    · exact rwrong_5 x hC hf h
def FewP (e : Ending) (n on : Nat) : Prop := ∃ b, e = .returned (.bool b) ∧ (b = true → n ≤ 40 ∧ on ≤ 20)
set_option maxRecDepth 20000 in
set_option maxHeartbeats 4000000 in
theorem few_any {w : World} {O A : Option Addr} {on ocap n cap : Nat} {f : Nat → Mk} (hr : Rd w A n f) (hn : n ≤ 9223372036854775807) (hon : on ≤ 9223372036854775807) :
    Calls Try.prog 4 #[.slice O on ocap, .slice A n cap, .int .i64 40] w fun e w' => FewP e n on ∧ Below w.heap.size w w' := by
  have hnI : (n : Int) ≤ 9223372036854775807 := by omega
  have hoI : (on : Int) ≤ 9223372036854775807 := by omega
  have hn0 : (0 : Int) ≤ (n : Int) := by omega
  by_cases h0 : n = 0
  · subst h0
    clear hr
    by_cases h2 : on ≤ 20
    · have h3 : (on : Int) ≤ 20 := by omega
      go_enter Try.func4, Try.ntmps4
      go_wp2
      refine wp_loop_rounds 1 ?_
      rw [rounds_succ]
      go_wp2
      go_ret
      exact ⟨⟨true, rfl, fun _ => ⟨by omega, h2⟩⟩, Below.refl _ _⟩
    · have h3 : ¬ (on : Int) ≤ 20 := by omega
      go_enter Try.func4, Try.ntmps4
      go_wp2
      refine wp_loop_rounds 1 ?_
      rw [rounds_succ]
      go_wp2
      go_ret
      exact ⟨⟨false, by first | rfl | (simp; omega), fun h => by cases h⟩, Below.refl _ _⟩
  · obtain ⟨b, off, rfl, hb, hA⟩ := hr (by omega)
    have HA := Lib.hid hA
    clear hA hr
    go_enter Try.func4, Try.ntmps4
    go_wp2
    go_loopw [7] (fun i wr => ∃ k : Nat, i = .int .i64 (k : Int) ∧ k ≤ n ∧ k ≤ 41 ∧ Below w.heap.size w wr) (fun i _ => n - (intOf i).toNat)
    case atStart => exact ⟨0, rfl, Nat.zero_le _, by omega, Below.refl _ _⟩
    case round =>
      obtain ⟨k, rfl, hk, hk41, hB⟩ := hrel
      have HB := Lib.hid hB
      clear hB
      have hk0 : (0 : Int) ≤ (k : Int) := by omega
      by_cases hlt : k < n
      · have hk1 : (k : Int) < (n : Int) := by omega
        by_cases h40 : k ≤ 40
        · have h4I : (k : Int) ≤ 40 := by omega
          obtain ⟨c0, c1, c2, c3, c4, c5, c6, c7, c8⟩ := (HA.out k hlt).below HB.out hb
          obtain ⟨x, hx⟩ : ∃ x, x = f k := ⟨_, rfl⟩
          rw [← hx] at c0 c1 c2 c3 c4 c5 c6 c7 c8
          clear hx
          go_wp2
          all_goals first
            | (go_ret; exact ⟨⟨false, rfl, fun h => by cases h⟩, HB.out⟩)
            | exact ⟨⟨k + 1, by go_num, by omega, by omega, HB.out⟩, by simp [intOf]; omega⟩
        · have h4I : ¬ (k : Int) ≤ 40 := by omega
          have h4d : decide ((k : Int) ≤ 40) = false := decide_eq_false h4I
          have hn4 : ¬ (n : Int) ≤ 40 := by omega
          have hn5 : decide ((n : Int) ≤ 40) = false := decide_eq_false hn4
          go_wp2
          go_ret
          exact ⟨⟨false, by first | rfl | (simp; omega), fun h => by cases h⟩, HB.out⟩
      · obtain rfl : k = n := by omega
        by_cases h40 : k ≤ 40
        · have h4I : (k : Int) ≤ 40 := by omega
          by_cases h2 : on ≤ 20
          · have h3 : (on : Int) ≤ 20 := by omega
            go_wp2
            go_ret
            exact ⟨⟨true, rfl, fun _ => ⟨h40, h2⟩⟩, HB.out⟩
          · have h3 : ¬ (on : Int) ≤ 20 := by omega
            go_wp2
            go_ret
            exact ⟨⟨false, by first | rfl | (simp; omega), fun h => by cases h⟩, HB.out⟩
        · have h4I : ¬ (k : Int) ≤ 40 := by omega
          have h4d : decide ((k : Int) ≤ 40) = false := decide_eq_false h4I
          go_wp2
          go_ret
          exact ⟨⟨false, by first | rfl | (simp; omega), fun h => by cases h⟩, HB.out⟩
def x0 : Mk := ⟨0, 2, 0, 0, 1, 1, 0, ⟨#[]⟩, ⟨#[]⟩⟩
theorem wrong_x0 : wrongF (fun _ => false) 1 (fun _ => x0) 0 x0 = 5 := by
  simp [wrongF, formedB, eright, pright, misB, shutB, recI, cn, x0]
  exact ⟨by decide, by decide⟩
theorem fw_x0 : fw (fun i => wrongF (fun _ => false) 1 (fun _ => x0) i x0) 1 = 0 ∧ wy (fun i => wrongF (fun _ => false) 1 (fun _ => x0) i x0) 1 = 5 := by
  have h := wrong_x0
  have e : fw (fun i => wrongF (fun _ => false) 1 (fun _ => x0) i x0) 1 = 0 := fw_hit (k := 0) (n := 1) rfl (by rw [h]; decide) (by decide)
  exact ⟨e, by unfold wy; rw [e, if_pos (by decide)]; exact h⟩
theorem name_5 (w : World) : Calls Try.prog 9 #[.int .i64 5] w fun e w' => e = .returned (.string ⟨#[117, 110, 115, 101, 110, 116]⟩) ∧ w' = w := by
  go_enter Try.func9, Try.ntmps9
  go_wp2
  go_ret
  exact ⟨rfl, rfl⟩
set_option maxRecDepth 20000 in
set_option maxHeartbeats 4000000 in
theorem awake_any (w : World) : Calls Try.prog 5 #[] w fun e w' => e = .returned (.bool true) ∧ Below w.heap.size w w' := by
  have g0 := heap_alloc_new w (.cells #[.bool false] 4)
  have g0' := al_of (o' := .cells #[.int .i64 0, .int .i64 2, .int .u64 0, .int .i64 0, .int .i64 1, .int .u64 1, .int .u64 0, .string ⟨#[]⟩, .string ⟨#[]⟩] TMk) g0
  have g1 := heap_alloc_new (w.alloc (.cells #[.bool false] 4)) (.cells #[.int .i64 0, .int .i64 2, .int .u64 0, .int .i64 0, .int .i64 1, .int .u64 1, .int .u64 0, .string ⟨#[]⟩, .string ⟨#[]⟩] TMk)
  rw [show (w.alloc (.cells #[.bool false] 4)).heap.size = w.heap.size + 1 by simp] at g1
  have gb : Below w.heap.size w ((w.alloc (.cells #[.bool false] 4)).alloc (.cells #[.int .i64 0, .int .i64 2, .int .u64 0, .int .i64 0, .int .i64 1, .int .u64 1, .int .u64 0, .string ⟨#[]⟩, .string ⟨#[]⟩] TMk)) := ((Below.refl _ _).alloc (Nat.le_refl _) _).alloc (by simp) _
  obtain ⟨w1, hw1⟩ : ∃ X, X = (w.alloc (.cells #[.bool false] 4)).alloc (.cells #[.int .i64 0, .int .i64 2, .int .u64 0, .int .i64 0, .int .i64 1, .int .u64 1, .int .u64 0, .string ⟨#[]⟩, .string ⟨#[]⟩] TMk) := ⟨_, rfl⟩
  rw [← hw1] at g0' g1 gb
  have hCx : Cx w1 (some ⟨w.heap.size, 0, none⟩) 1 (fun _ => false) (some ⟨w.heap.size + 1, 0, none⟩) 1 (fun _ => x0) := by
    refine ⟨fun _ => ⟨_, _, rfl, lt_of g0', fun i hi => ?_⟩, fun _ => ⟨_, _, rfl, lt_of g1, fun i hi => ?_⟩, by decide, by decide⟩
    · obtain rfl : i = 0 := by omega
      exact cell_of_row w1 w.heap.size 0 _ _ (0, 0) g0'
    · obtain rfl : i = 0 := by omega
      have q := fun i => cell_of_row w1 (w.heap.size + 1) i _ _ (0, 0) g1
      exact ⟨q 0, q 1, q 2, q 3, q 4, q 5, q 6, q 7, q 8⟩
  have hch := check_any (ocap := 1) (cap := 1) hCx (by decide) (by decide)
  rw [fw_x0.1, fw_x0.2] at hch
  have HCH := Lib.hid hch
  have HB := Lib.hid gb
  clear hch hCx gb g0 g0' g1
  go_enter Try.func5, Try.ntmps5
  go_wp2_with fail
  rw [← hw1]
  clear hw1
  refine HCH.out.mono ?_
  rintro _ w2 ⟨rfl, b2⟩
  have HB2 := Lib.hid (HB.out.trans (b2.mono HB.out.size))
  clear b2 HCH HB
  go_wp2_with fail
  refine (name_5 _).mono ?_
  rintro _ _ ⟨rfl, rfl⟩
  go_wp2
  go_ret
  exact ⟨rfl, HB2.out⟩
end Go.Proofs.Ytfojmjgnndlfnab.Tr
