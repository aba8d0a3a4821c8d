/- 'TableNobody': a table that is none. -/
import Derived.Test.YtjkebabkacnmpaaGreatTableAwake
import Derived.Test.YtjkebabkacnmpaaGreatOpOpen
namespace Go.Proofs.YtjkebabkacnmpaaGreat.Mk
open Go Go.RowKit Go.MuLone
set_option maxRecDepth 20000 in
set_option maxHeartbeats 2000000 in
theorem walk0 (kd who : Int) (k : K3) (sd ac ep nn : Int) (W : World) : Calls Tryz.prog 3 #[opV kd who k sd ac ep nn] W fun e w' => e = .returned (.bool true) ∧ Below W.heap.size W w' := by
  obtain ⟨kc, kf, ks⟩ := k
  have HD := Lib.hid (fun V => tdo_nil kd who ⟨kc, kf, ks⟩ sd ac ep nn V)
  unfold opV retV at HD
  unfold opV
  dsimp only at HD ⊢
  have ha := heap_alloc_new W (.cells #[.int .i64 kd, .int .i64 who, .int .i64 kc, .int .i64 kf, .int .u64 ks, .int .i64 sd, .int .i64 ac, .int .u64 ep, .int .u64 nn] 26)
  have b1 := (Below.refl W.heap.size W).alloc (Nat.le_refl _) (.cells #[.int .i64 kd, .int .i64 who, .int .i64 kc, .int .i64 kf, .int .u64 ks, .int .i64 sd, .int .i64 ac, .int .u64 ep, .int .u64 nn] 26)
  obtain ⟨w1, hw1⟩ : ∃ X, X = W.alloc (.cells #[.int .i64 kd, .int .i64 who, .int .i64 kc, .int .i64 kf, .int .u64 ks, .int .i64 sd, .int .i64 ac, .int .u64 ep, .int .u64 nn] 26) := ⟨_, rfl⟩
  rw [← hw1] at ha b1
  have hlt : W.heap.size < w1.heap.size := (Array.getElem?_eq_some_iff.1 ha).1
  have p2 := cell_of_row w1 W.heap.size 2 _ _ (0, 0) ha
  have p3 := cell_of_row w1 W.heap.size 3 _ _ (0, 0) ha
  have p4 := cell_of_row w1 W.heap.size 4 _ _ (0, 0) ha
  go_enter Tryz.func3, Tryz.ntmps3
  go_upto_region 1 with fail
  rw [← hw1]
  clear hw1
  go_wp2_with fail
  refine (tget_nil ⟨kc, kf, ks⟩ _).mono ?_
  rintro _ w2 ⟨rfl, b2⟩
  unfold En.cells en0
  have b3 := b2.alloc b2.size (.cells #[.int .i64 0, .int .i64 0, .int .u64 0, .int .i64 0, .int .i64 0] 29)
  have x3 := heap_alloc_new w2 (.cells #[.int .i64 0, .int .i64 0, .int .u64 0, .int .i64 0, .int .i64 0] 29)
  obtain ⟨w3, hw3⟩ : ∃ X, X = w2.alloc (.cells #[.int .i64 0, .int .i64 0, .int .u64 0, .int .i64 0, .int .i64 0] 29) := ⟨_, rfl⟩
  rw [← hw3] at b3 x3
  have b4 : Below W.heap.size W w3 := b1.trans (b3.mono b1.size)
  have ha3 := (b3.block _ hlt).trans ha
  have hX := Lib.hid (And.intro b4 (And.intro ha3 x3))
  clear p2 p3 p4 b1 b2 b3 b4 ha3 x3 ha hlt
  go_upto_region 3 with fail
  rw [← hw3]
  clear hw3
  go_wp2_with fail
  refine (awake_any _).mono ?_
  rintro _ w4 ⟨rfl, b5⟩
  have hl3 : W.heap.size < w3.heap.size := (Array.getElem?_eq_some_iff.1 hX.out.2.1).1
  have hx3 : w2.heap.size < w3.heap.size := (Array.getElem?_eq_some_iff.1 hX.out.2.2).1
  have ha4 := (b5.block _ hl3).trans hX.out.2.1
  have c := fun i => cell_of_row w4 W.heap.size i _ _ (0, 0) ha4
  have c0 := c 0; have c1 := c 1; have c2 := c 2; have c3 := c 3; have c4 := c 4; have c5 := c 5; have c6 := c 6; have c7 := c 7; have c8 := c 8
  have x4 := (b5.block _ hx3).trans hX.out.2.2
  have b6 : Below W.heap.size W w4 := hX.out.1.trans (b5.mono hX.out.1.size)
  have hX4 := Lib.hid (And.intro b6 (And.intro ha4 x4))
  clear b5 hl3 hx3 ha4 x4 b6 hX c
  go_wp2_with fail
  refine (HD.out _).mono ?_
  rintro _ w5 ⟨rfl, b7⟩
  have hx4 : w2.heap.size < w4.heap.size := (Array.getElem?_eq_some_iff.1 hX4.out.2.2).1
  have ha4 : W.heap.size < w4.heap.size := (Array.getElem?_eq_some_iff.1 hX4.out.2.1).1
  have x5 := (b7.block _ hx4).trans hX4.out.2.2
  have a5 := (b7.block _ ha4).trans hX4.out.2.1
  have b8 : Below W.heap.size W w5 := hX4.out.1.trans (b7.mono hX4.out.1.size)
  have d0 := cell_of_row w5 w2.heap.size 0 _ _ (0, 0) x5
  have d1 := cell_of_row w5 w2.heap.size 1 _ _ (0, 0) x5
  have d2 := cell_of_row w5 w2.heap.size 2 _ _ (0, 0) x5
  have d3 := cell_of_row w5 w2.heap.size 3 _ _ (0, 0) x5
  have d4 := cell_of_row w5 w2.heap.size 4 _ _ (0, 0) x5
  have hX5 := Lib.hid (And.intro b8 a5)
  clear c0 c1 c2 c3 c4 c5 c6 c7 c8 b7 hx4 ha4 x5 a5 b8 hX4
  go_wp2_with fail
  refine (shards_nil _).mono ?_
  rintro _ w6 ⟨rfl, rfl⟩
  go_wp2_with fail
  refine (tsnap_nil _ _).mono ?_
  rintro _ w7 ⟨rfl, rfl⟩
  go_wp2_with fail
  refine (all_nil _).mono ?_
  rintro _ w8 ⟨rfl, b9⟩
  have ha5 : W.heap.size < w7.heap.size := (Array.getElem?_eq_some_iff.1 hX5.out.2).1
  have a8 := (b9.block _ ha5).trans hX5.out.2
  have g1 := cell_of_row w8 W.heap.size 1 _ _ (0, 0) a8
  have b10 : Below W.heap.size W w8 := hX5.out.1.trans (b9.mono hX5.out.1.size)
  have hX8 := Lib.hid b10
  clear b9 ha5 a8 b10 hX5 d0 d1 d2 d3 d4
  go_wp2_with fail
  refine (owned_nil _ _).mono ?_
  rintro _ w9 ⟨rfl, b11⟩
  have hX9 := Lib.hid (show Below W.heap.size W w9 from hX8.out.trans (b11.mono hX8.out.size))
  clear b11 hX8 g1
  go_wp2_with fail
  refine (count_nil _ _).mono ?_
  rintro _ w10 ⟨rfl, b12⟩
  have hX10 := Lib.hid (show Below W.heap.size W w10 from hX9.out.trans (b12.mono hX9.out.size))
  clear b12 hX9
  go_wp2
  go_ret
  exact ⟨rfl, hX10.out⟩
section
variable {H : Type} {enc : TypeId × Value → H} {base : Nat} {spare : Nat → Bool} {held : Bool}
set_option maxRecDepth 100000 in
theorem walk {w : World} {v : Value} {r : Reach} {b0 : Nat} {d : DataW H} {p : List MemPlace} (ok : Value.okWide Tryz.prog w r b0 26 v) (h : DataW.Trod enc Tryz.prog w base spare held 26 v d p) :
    Calls Tryz.prog 3 #[v] w fun e w' => e = .returned (.bool true) ∧ Below w.heap.size w w' := by
  obtain ⟨kd, who, k, sd, ac, ep, nn, rfl⟩ := open_op_val ok h
  exact walk0 kd who k sd ac ep nn w
end
end Go.Proofs.YtjkebabkacnmpaaGreat.Mk
