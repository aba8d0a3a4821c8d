/- 'ShardNobody': a shard that is none. -/
import Derived.Test.YthamemaomedldabShardAwake
namespace Go.Proofs.Ythamemaomedldab.Mk
open Go Go.RowKit Go.MuLone

set_option maxRecDepth 20000 in
theorem walk0 (kd who : Int) (k : K3) (h0 : 0 ≤ kd) (W : World) : Calls Try.prog 3 #[actV kd who k] W fun e w' => e = .returned (.bool true) ∧ Below W.heap.size W w' := by
  obtain ⟨kc, kf, ks⟩ := k
  have HD := Lib.hid (fun V => does_nil kd who ⟨kc, kf, ks⟩ h0 V)
  unfold actV at HD ⊢
  dsimp only at HD ⊢
  have ha := heap_alloc_new W (.cells #[.int .u8 kd, .int .i64 who, .int .i64 kc, .int .i64 kf, .int .u64 ks] 26)
  have b1 := (Below.refl W.heap.size W).alloc (Nat.le_refl _) (.cells #[.int .u8 kd, .int .i64 who, .int .i64 kc, .int .i64 kf, .int .u64 ks] 26)
  obtain ⟨w1, hw1⟩ : ∃ X, X = W.alloc (.cells #[.int .u8 kd, .int .i64 who, .int .i64 kc, .int .i64 kf, .int .u64 ks] 26) := ⟨_, rfl⟩
  rw [← hw1] at ha b1
  have hlt : W.heap.size < w1.heap.size := (Array.getElem?_eq_some_iff.1 ha).1
  have c0 := cell_of_row w1 W.heap.size 0 _ _ (0, 0) ha
  have c1 := cell_of_row w1 W.heap.size 1 _ _ (0, 0) ha
  have c2 := cell_of_row w1 W.heap.size 2 _ _ (0, 0) ha
  have c3 := cell_of_row w1 W.heap.size 3 _ _ (0, 0) ha
  have c4 := cell_of_row w1 W.heap.size 4 _ _ (0, 0) ha
  go_enter Try.func3, Try.ntmps3
  go_upto_region 1 with fail
  rw [← hw1]
  clear hw1 h0
  go_wp2_with fail
  refine (get_nil ⟨kc, kf, ks⟩ _).mono ?_
  rintro _ w2 ⟨rfl, b2⟩
  unfold En.cells en0
  have b3 := b2.alloc b2.size (.cells #[.int .i64 0, .int .i64 0, .int .u64 0, .int .i64 0, .int .i64 0] 29)
  have x3 := heap_alloc_new w2 (.cells #[.int .i64 0, .int .i64 0, .int .u64 0, .int .i64 0, .int .i64 0] 29)
  obtain ⟨w3, hw3⟩ : ∃ X, X = w2.alloc (.cells #[.int .i64 0, .int .i64 0, .int .u64 0, .int .i64 0, .int .i64 0] 29) := ⟨_, rfl⟩
  rw [← hw3] at b3 x3
  have b4 : Below W.heap.size W w3 := b1.trans (b3.mono b1.size)
  have ha3 := (b3.block _ hlt).trans ha
  have hX := Lib.hid (And.intro b4 (And.intro ha3 (And.intro x3 (Nat.lt_of_lt_of_le hlt b2.size))))
  clear c0 c1 c2 c3 c4 b1 b2 b3 b4 ha3 x3 ha hlt
  go_upto_region 3 with fail
  rw [← hw3]
  clear hw3
  go_wp2_with fail
  refine (awake_any _).mono ?_
  rintro _ w4 ⟨rfl, b5⟩
  have hl3 : W.heap.size < w3.heap.size := (Array.getElem?_eq_some_iff.1 hX.out.2.1).1
  have hx3 : w2.heap.size < w3.heap.size := (Array.getElem?_eq_some_iff.1 hX.out.2.2.1).1
  have ha4 := (b5.block _ hl3).trans hX.out.2.1
  have c0 := cell_of_row w4 W.heap.size 0 _ _ (0, 0) ha4
  have c1 := cell_of_row w4 W.heap.size 1 _ _ (0, 0) ha4
  have c2 := cell_of_row w4 W.heap.size 2 _ _ (0, 0) ha4
  have c3 := cell_of_row w4 W.heap.size 3 _ _ (0, 0) ha4
  have c4 := cell_of_row w4 W.heap.size 4 _ _ (0, 0) ha4
  have x4 := (b5.block _ hx3).trans hX.out.2.2.1
  have b6 : Below W.heap.size W w4 := hX.out.1.trans (b5.mono hX.out.1.size)
  have hX4 := Lib.hid (And.intro b6 x4)
  clear b5 hl3 hx3 ha4 x4 b6 hX
  go_wp2_with fail
  refine (HD.out _).mono ?_
  rintro _ w5 ⟨rfl, b7⟩
  have hx4 : w2.heap.size < w4.heap.size := (Array.getElem?_eq_some_iff.1 hX4.out.2).1
  have x5 := (b7.block _ hx4).trans hX4.out.2
  have b8 : Below W.heap.size W w5 := hX4.out.1.trans (b7.mono hX4.out.1.size)
  have d0 := cell_of_row w5 w2.heap.size 0 _ _ (0, 0) x5
  have d1 := cell_of_row w5 w2.heap.size 1 _ _ (0, 0) x5
  have d2 := cell_of_row w5 w2.heap.size 2 _ _ (0, 0) x5
  have d3 := cell_of_row w5 w2.heap.size 3 _ _ (0, 0) x5
  have d4 := cell_of_row w5 w2.heap.size 4 _ _ (0, 0) x5
  have hX5 := Lib.hid b8
  clear c0 c1 c2 c3 c4 b7 hx4 x5 b8 hX4
  go_wp2_with fail
  refine (len_nil _).mono ?_
  rintro _ w6 ⟨rfl, rfl⟩
  go_wp2_with fail
  refine (snap_nil _).mono ?_
  rintro _ w7 ⟨rfl, rfl⟩
  go_wp2
  go_ret
  exact ⟨rfl, hX5.out⟩
section
variable {H : Type} {enc : TypeId × Value → H} {base : Nat} {spare : Nat → Bool} {held : Bool}
theorem walk {w : World} {v : Value} {r : Reach} {b0 : Nat} {d : DataW H} {p : List MemPlace} (ok : Value.okWide Try.prog w r b0 26 v) (h : DataW.Trod enc Try.prog w base spare held 26 v d p) :
    Calls Try.prog 3 #[v] w fun e w' => e = .returned (.bool true) ∧ Below w.heap.size w w' := by
  obtain ⟨kd, who, k, h0, _, _, _, rfl⟩ := open_act_val ok h
  exact walk0 kd who k h0 w
end
end Go.Proofs.Ythamemaomedldab.Mk
