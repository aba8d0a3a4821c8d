/- 'ScanNobody': the page's example; the law's walk. -/
import Derived.Test.YthamhdfkhhfmmabScanLook
namespace Go.Proofs.Ythamhdfkhhfmmab.Wd
open Go Go.RowKit Conf Go.MapKept

theorem zK_size : zK.size = 3 := by rfl
theorem plain_one (W : World) : Calls Try.prog 8 #[.int .i64 1, .int .i64 1] W fun e w' => ∃ u cap, e = .returned (.agg #[.slice (some ⟨u, 0, none⟩) 1 cap, .int .i64 1, .int .i64 2, .int .i64 8, .int .i64 8, .int .i64 4, .int .i64 3, .int .i64 2, .int .i64 4, .int .i64 6, .int .i64 0, .int .u64 0]) ∧ w'.cell? ⟨u, 0, none⟩ = some (.bool false) ∧ Below W.heap.size W w' := by
  refine (plain_mid 1 (by decide) 1 W).mono ?_
  rintro e w' ⟨A, cap, rfl, hr, hb⟩
  obtain ⟨u, c, hA, -⟩ := own_one hr
  injection hA with hA _ _
  subst hA
  exact ⟨u, cap, rfl, World.ownsRow.cells hr (g := u) rfl 0 (.bool false) rfl, hb⟩
set_option maxRecDepth 20000 in
set_option maxHeartbeats 2000000 in
theorem awake_any (W : World) : Calls Try.prog 4 #[] W fun e w' => e = .returned (.bool true) ∧ Below W.heap.size W w' := by
  go_enter Try.func4, Try.ntmps4
  go_wp2_with fail
  refine (plain_one _).mono ?_
  rintro _ w1 ⟨u, cap, rfl, hc, b1⟩
  have HW := Lib.hid (world_new u cap false w1 hc)
  have HB1 := Lib.hid b1
  clear hc b1
  go_wp2_with fail
  refine HW.out.mono ?_
  rintro _ w2 ⟨⟨B, L0, L1, rfl, hw⟩, b2⟩
  have H2 := Lib.hid (And.intro hw (HB1.out.trans (b2.mono HB1.out.size)))
  clear hw b2 HB1 HW
  go_wp2_with fail
  refine (scan_new _).mono ?_
  rintro _ w3 ⟨⟨S, rfl, hS⟩, b3⟩
  have H3 := Lib.hid (And.intro (H2.out.1.below b3) (And.intro (H2.out.2.trans (b3.mono H2.out.2.size)) hS))
  clear hS b3 H2
  have HK := Lib.hid (look_core (V := w3) S (some ⟨B, 0, none⟩) (some ⟨L0, 0, none⟩) H3.out.2.2 (fun V' hb => wl_0 (H3.out.1.below hb)) (Or.inr (H3.out.1.l0.elim fun lo h => ⟨lo, L0, 0, rfl, h⟩)))
  go_wp2_with fail
  refine HK.out.mono ?_
  rintro _ w4 ⟨rfl, b4⟩
  have H4 := Lib.hid (H3.out.2.1.trans (b4.mono H3.out.2.1.size))
  clear b4 HK
  have hst := run_storeCells_new (P := Try.prog) w4 TKy #[.int .i64 0, .int .i64 0, .int .u64 0] zK i3z (by rfl) zK_one
  have hz3 := zK_size
  have HF := Lib.hid (H4.out.alloc H4.out.size (.cells zK TKy))
  go_wp2
  go_ret
  exact ⟨rfl, HF.out⟩
theorem use_w {W : World} {B L0 L1 : Nat} (h : WdIs W B L0 L1) (n : Int) (xk xh xc xf xs xt : Int) (xd xa : ByteArray) :
    Calls Try.prog 12 #[.pointer (some ⟨B, 0, none⟩), .int .i64 n, .agg #[.int .i64 xk, .int .u64 xh, .int .i64 xc, .int .i64 xf, .int .u64 xs, .int .u64 xt, .string xd, .string xa]] W fun e w' => e = .returned (.bool false) ∧ Below W.heap.size W w' := by
  by_cases hn : n < 0 ∨ 7 < n
  · exact use_core _ none none n (-1) (-1) xk xh xc xf xs xt xd xa (dir_out n hn) (fun V _ => wl_no _ V) (fun V _ => ll_nil _ V) (Or.inl rfl)
  · by_cases h2 : n % 2 = 0
    · obtain ⟨lo, hl⟩ := h.l0
      obtain ⟨p, hp, hc⟩ := ll_any hl (n / 2) (by omega)
      exact use_core _ (some ⟨L0, 0, none⟩) p n (n / 2) (n % 2) xk xh xc xf xs xt xd xa (fun V => dir_in n (by omega) (by omega) V) (fun V hb => by rw [h2]; exact wl_0 (h.below hb)) (fun V hb => hc V hb) hp
    · have h3 : n % 2 = 1 := by omega
      obtain ⟨lo, hl⟩ := h.l1
      obtain ⟨p, hp, hc⟩ := ll_any hl (n / 2) (by omega)
      exact use_core _ (some ⟨L1, 0, none⟩) p n (n / 2) (n % 2) xk xh xc xf xs xt xd xa (fun V => dir_in n (by omega) (by omega) V) (fun V hb => by rw [h3]; exact wl_1 (h.below hb)) (fun V hb => hc V hb) hp
theorem use_nil (W : World) (n : Int) (xk xh xc xf xs xt : Int) (xd xa : ByteArray) :
    Calls Try.prog 12 #[.pointer none, .int .i64 n, .agg #[.int .i64 xk, .int .u64 xh, .int .i64 xc, .int .i64 xf, .int .u64 xs, .int .u64 xt, .string xd, .string xa]] W fun e w' => e = .returned (.bool false) ∧ Below W.heap.size W w' := by
  by_cases hn : n < 0 ∨ 7 < n
  · exact use_core _ none none n (-1) (-1) xk xh xc xf xs xt xd xa (dir_out n hn) (fun V _ => wl_nil _ V) (fun V _ => ll_nil _ V) (Or.inl rfl)
  · exact use_core _ none none n (n / 2) (n % 2) xk xh xc xf xs xt xd xa (fun V => dir_in n (by omega) (by omega) V) (fun V _ => wl_nil _ V) (fun V _ => ll_nil _ V) (Or.inl rfl)
set_option maxHeartbeats 1000000 in
theorem law_long (xk xh xc xf xs xt : Int) (xd xa : ByteArray) (n : Int) (hl : 200 < xd.size ∨ 200 < xa.size) (W : World) :
    Calls Try.prog 3 #[.agg #[.int .i64 xk, .int .u64 xh, .int .i64 xc, .int .i64 xf, .int .u64 xs, .int .u64 xt, .string xd, .string xa], .int .i64 n] W fun e w' => e = .returned (.bool true) ∧ Below W.heap.size W w' := by
  have hb := (Below.refl W.heap.size W).alloc (Nat.le_refl _) (.cells #[.int .i64 xk, .int .u64 xh, .int .i64 xc, .int .i64 xf, .int .u64 xs, .int .u64 xt, .string xd, .string xa] TEv)
  have hx := heap_alloc_new W (.cells #[.int .i64 xk, .int .u64 xh, .int .i64 xc, .int .i64 xf, .int .u64 xs, .int .u64 xt, .string xd, .string xa] TEv)
  obtain ⟨w0, hw0⟩ : ∃ X, X = W.alloc (.cells #[.int .i64 xk, .int .u64 xh, .int .i64 xc, .int .i64 xf, .int .u64 xs, .int .u64 xt, .string xd, .string xa] TEv) := ⟨_, rfl⟩
  rw [← hw0] at hb hx
  have q6 := cell_of_row w0 W.heap.size 6 _ _ (0, 0) hx
  have q7 := cell_of_row w0 W.heap.size 7 _ _ (0, 0) hx
  have HB := Lib.hid hb
  clear hb hx
  by_cases h1 : 200 < xd.size
  · have h1i : (200 : Int) < (xd.size : Int) := by omega
    clear hl
    go_enter Try.func3, Try.ntmps3
    go_upto_region 1 with fail
    rw [← hw0]
    clear hw0
    go_wp2_with fail
    refine (awake_any _).mono ?_
    rintro _ w1 ⟨rfl, b1⟩
    have HF := Lib.hid (HB.out.trans (b1.mono HB.out.size))
    clear b1 q6 q7
    go_wp2
    go_ret
    exact ⟨rfl, HF.out⟩
  · have h1i : (xd.size : Int) ≤ 200 := by omega
    have h2i : (200 : Int) < (xa.size : Int) := by omega
    clear hl
    go_enter Try.func3, Try.ntmps3
    go_upto_region 1 with fail
    rw [← hw0]
    clear hw0
    go_wp2_with fail
    refine (awake_any _).mono ?_
    rintro _ w1 ⟨rfl, b1⟩
    have HF := Lib.hid (HB.out.trans (b1.mono HB.out.size))
    clear b1 q6 q7
    go_wp2
    go_ret
    exact ⟨rfl, HF.out⟩
set_option maxRecDepth 20000 in
set_option maxHeartbeats 4000000 in
theorem law0 (xk xh xc xf xs xt : Int) (xd xa : ByteArray) (n : Int) (hd : xd.size ≤ 200) (ha : xa.size ≤ 200) (W : World) :
    Calls Try.prog 3 #[.agg #[.int .i64 xk, .int .u64 xh, .int .i64 xc, .int .i64 xf, .int .u64 xs, .int .u64 xt, .string xd, .string xa], .int .i64 n] W fun e w' => e = .returned (.bool true) ∧ Below W.heap.size W w' := by
  have hb := (Below.refl W.heap.size W).alloc (Nat.le_refl _) (.cells #[.int .i64 xk, .int .u64 xh, .int .i64 xc, .int .i64 xf, .int .u64 xs, .int .u64 xt, .string xd, .string xa] TEv)
  have hx := heap_alloc_new W (.cells #[.int .i64 xk, .int .u64 xh, .int .i64 xc, .int .i64 xf, .int .u64 xs, .int .u64 xt, .string xd, .string xa] TEv)
  obtain ⟨w0, hw0⟩ : ∃ X, X = W.alloc (.cells #[.int .i64 xk, .int .u64 xh, .int .i64 xc, .int .i64 xf, .int .u64 xs, .int .u64 xt, .string xd, .string xa] TEv) := ⟨_, rfl⟩
  rw [← hw0] at hb hx
  have q6 := cell_of_row w0 W.heap.size 6 _ _ (0, 0) hx
  have q7 := cell_of_row w0 W.heap.size 7 _ _ (0, 0) hx
  have H0 := Lib.hid (And.intro hx hb)
  have h1i : (xd.size : Int) ≤ 200 := by omega
  have h2i : (xa.size : Int) ≤ 200 := by omega
  clear hb hx hd ha
  go_enter Try.func3, Try.ntmps3
  go_upto_region 1 with fail
  rw [← hw0]
  clear hw0
  go_wp2_with fail
  refine (next_nil _).mono ?_
  rintro _ w' ⟨rfl, hw⟩
  obtain rfl := hw.symm
  clear hw
  go_wp2_with fail
  refine (reset_nil _).mono ?_
  rintro _ w' ⟨rfl, hw⟩
  obtain rfl := hw.symm
  clear hw q6 q7
  go_wp2_with fail
  refine (plain_one _).mono ?_
  rintro _ w1 ⟨u, cap, rfl, hc, b1⟩
  have HW := Lib.hid (world_new u cap false w1 hc)
  have H1 := Lib.hid (And.intro ((b1.block _ (lt_of H0.out.1)).trans H0.out.1) (H0.out.2.trans (b1.mono H0.out.2.size)))
  clear hc b1 H0
  go_wp2_with fail
  refine HW.out.mono ?_
  rintro _ w2 ⟨⟨B, L0, L1, rfl, hw⟩, b2⟩
  have H2 := Lib.hid (And.intro ((b2.block _ (lt_of H1.out.1)).trans H1.out.1) (And.intro (H1.out.2.trans (b2.mono H1.out.2.size)) hw))
  clear hw b2 H1 HW
  go_wp2_with fail
  refine (look_nil _ _).mono ?_
  rintro _ w3 ⟨rfl, b3⟩
  have hst := run_storeCells_new (P := Try.prog) w3 TKy #[.int .i64 0, .int .i64 0, .int .u64 0] zK i3z (by rfl) zK_one
  have hz3 := zK_size
  go_upto_region 8 with fail
  have b4 := b3.alloc b3.size (.cells zK TKy)
  obtain ⟨w4, hw4⟩ : ∃ X, X = w3.alloc (.cells zK TKy) := ⟨_, rfl⟩
  rw [← hw4] at b4 ⊢
  have H4 := Lib.hid (And.intro ((b4.block _ (lt_of H2.out.1)).trans H2.out.1) (And.intro (H2.out.2.1.trans (b4.mono H2.out.2.1.size)) (H2.out.2.2.below b4)))
  clear hst hw4 b3 b4 H2
  go_wp2_with fail
  refine (scan_new _).mono ?_
  rintro _ w5 ⟨⟨S, rfl, hS⟩, b5⟩
  have H5 := Lib.hid (And.intro ((b5.block _ (lt_of H4.out.1)).trans H4.out.1) (And.intro (H4.out.2.1.trans (b5.mono H4.out.2.1.size)) (H4.out.2.2.below b5)))
  have HK := Lib.hid (look_core (V := w5) S none none hS (fun V' _ => wl_nil 0 V') (Or.inl rfl))
  clear hS b5 H4
  go_wp2_with fail
  refine HK.out.mono ?_
  rintro _ w6 ⟨rfl, b6⟩
  have hst := run_storeCells_new (P := Try.prog) w6 TKy #[.int .i64 0, .int .i64 0, .int .u64 0] zK i3z (by rfl) zK_one
  go_upto_region 10 with fail
  have b7 := b6.alloc b6.size (.cells zK TKy)
  obtain ⟨w7, hw7⟩ : ∃ X, X = w6.alloc (.cells zK TKy) := ⟨_, rfl⟩
  rw [← hw7] at b7 ⊢
  have H7 := Lib.hid (And.intro ((b7.block _ (lt_of H5.out.1)).trans H5.out.1) (And.intro (H5.out.2.1.trans (b7.mono H5.out.2.1.size)) (H5.out.2.2.below b7)))
  clear hst hw7 b6 b7 H5 hz3 HK
  go_wp2_with fail
  refine (awake_any _).mono ?_
  rintro _ w8 ⟨rfl, b8⟩
  have H8 := Lib.hid (And.intro ((b8.block _ (lt_of H7.out.1)).trans H7.out.1) (And.intro (H7.out.2.1.trans (b8.mono H7.out.2.1.size)) (H7.out.2.2.below b8)))
  clear b8 H7
  go_wp2_with fail
  refine (place_nil _).mono ?_
  rintro _ w' ⟨rfl, hw⟩
  obtain rfl := hw.symm
  clear hw
  have q := fun i => cell_of_row w8 W.heap.size i _ _ (0, 0) H8.out.1
  have q0 := q 0; have q1 := q 1; have q2 := q 2; have q3 := q 3; have q4 := q 4; have q5 := q 5; have q6 := q 6; have q7 := q 7
  have HU := Lib.hid (use_w H8.out.2.2 n xk xh xc xf xs xt xd xa)
  clear q
  go_wp2_with fail
  refine HU.out.mono ?_
  rintro _ w9 ⟨rfl, b9⟩
  have H9 := Lib.hid (And.intro ((b9.block _ (lt_of H8.out.1)).trans H8.out.1) (H8.out.2.1.trans (b9.mono H8.out.2.1.size)))
  clear b9 H8 HU q0 q1 q2 q3 q4 q5 q6 q7
  have q := fun i => cell_of_row w9 W.heap.size i _ _ (0, 0) H9.out.1
  have q0 := q 0; have q1 := q 1; have q2 := q 2; have q3 := q 3; have q4 := q 4; have q5 := q 5; have q6 := q 6; have q7 := q 7
  clear q
  go_wp2_with fail
  refine (use_nil _ n xk xh xc xf xs xt xd xa).mono ?_
  rintro _ w10 ⟨rfl, b10⟩
  have HF := Lib.hid (H9.out.2.trans (b10.mono H9.out.2.size))
  clear b10 H9 q0 q1 q2 q3 q4 q5 q6 q7
  go_wp2
  go_ret
  exact ⟨rfl, HF.out⟩
end Go.Proofs.Ythamhdfkhhfmmab.Wd
