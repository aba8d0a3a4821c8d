/- A scan in a world as it is made. -/
import Derived.Test.YthamhdfkhhfmmabWorldAsk2
import Derived.IntWalk
namespace Go.Proofs.Ythamhdfkhhfmmab.Wd
open Go Go.RowKit Conf Go.MapKept

theorem dir_in (n : Int) (h0 : 0 ≤ n) (h7 : n ≤ 7) (w : World) :
    Calls Try.prog 14 #[.int .i64 n] w fun e w' => e = .returned (.tuple #[.int .i64 (n / 2), .int .i64 (n % 2)]) ∧ ∃ k, w' = w.drewN k := by
  have e1 : wrap64 (n.tdiv 2) = n / 2 := by rw [Int.tdiv_eq_ediv_of_nonneg h0]; exact IntWalk.wrap64_in _ ⟨by omega, by omega⟩
  have e2 : wrap64 (n.tmod 2) = n % 2 := by rw [Int.tmod_eq_emod_of_nonneg h0]; exact IntWalk.wrap64_in _ ⟨by omega, by omega⟩
  have h8 : n < 8 := by omega
  go_enter Try.func14, Try.ntmps14
  go_wp2
  go_ret2
  exact ⟨rfl, 0, rfl⟩
theorem dir_out (n : Int) (h : n < 0 ∨ 7 < n) (w : World) :
    Calls Try.prog 14 #[.int .i64 n] w fun e w' => e = .returned (.tuple #[.int .i64 (-1), .int .i64 (-1)]) ∧ ∃ k, w' = w.drewN k := by
  rcases h with h | h
  · go_enter Try.func14, Try.ntmps14
    go_wp2
    go_ret2
    exact ⟨rfl, 0, rfl⟩
  · have h8 : 8 ≤ n := by omega
    have h0 : 0 ≤ n := by omega
    go_enter Try.func14, Try.ntmps14
    go_wp2
    go_ret2
    exact ⟨rfl, 0, rfl⟩

abbrev TEv : Nat := 26
abbrev TKy : Nat := 38
def zE : Array Value := #[.int .i64 0, .int .u64 0, .int .i64 0, .int .i64 0, .int .u64 0, .int .u64 0, .string ⟨#[]⟩, .string ⟨#[]⟩]
def zK : Array Value := #[.int .i64 0, .int .i64 0, .int .u64 0]
theorem hstN (V : World) (b : Nat) (t : TypeId) (cs : Array Value) (C : Array Value) (hcs : cs.size = C.size) (ho : C.all (·.oneCell') = true) (h : V.heap[b]? = some (.cells cs t (0, 0))) :
    (storeCells ⟨b, 0, none⟩ C.toList).run Try.prog V = .ok () (V.setRow b C) := by
  have h := run_storeCells_at (P := Try.prog) b 0 t C.toList 0 cs V h (by rw [Array.length_toList, hcs]; omega) (fun u hu => (Array.all_eq_true'.1 ho) u (by simpa using hu))
  simp only [Nat.add_zero, List.take_zero, List.nil_append, Nat.zero_add] at h
  rw [h, List.drop_of_length_le (by rw [Array.length_toList, hcs, Array.length_toList]; exact Nat.le_refl _), List.append_nil]
theorem zero_ev (W : World) : (zeroValue TEv).run Try.prog W = .ok (.agg zE) W := by kernel_rfl
theorem i8z : (Try.prog.info? TEv).map (·.size) = some zE.size := by kernel_rfl
theorem i3z : (Try.prog.info? TKy).map (·.size) = some zK.size := by kernel_rfl
theorem zE_one : zE.all (·.oneCell') = true := by kernel_rfl
theorem zK_one : zK.all (·.oneCell') = true := by kernel_rfl
/-- a ledger that was asked for: none, or one as it is made -/
def LdIs (V : World) (p : Option Addr) : Prop := p = none ∨ ∃ lo L sd, p = some ⟨L, 0, none⟩ ∧ LgIs V lo L sd
theorem LdIs.below {V V' : World} {p : Option Addr} (h : LdIs V p) (hb : Below V.heap.size V V') : LdIs V' p := h.imp id fun ⟨lo, L, sd, h1, h2⟩ => ⟨lo, L, sd, h1, h2.below hb⟩
set_option maxRecDepth 20000 in
set_option maxHeartbeats 2000000 in
theorem event_any {V : World} {p : Option Addr} (h : LdIs V p) : Calls Try.prog 16 #[.pointer p, .int .i64 0] V fun e w' => e = .returned (.tuple #[.agg zE, .bool false]) ∧ Below V.heap.size V w' := by
  obtain ⟨C, hC⟩ : ∃ C, C = zE := ⟨_, rfl⟩
  have hz := fun W => hC ▸ zero_ev W
  have hi : (Try.prog.info? TEv).map (·.size) = some C.size := hC ▸ i8z
  have ho : C.all (·.oneCell') = true := hC ▸ zE_one
  have hs : C.size = 8 := by rw [hC]; rfl
  have hR : (V.alloc (.cells #[.int .i64 0, .int .u64 0, .int .i64 0, .int .i64 0, .int .u64 0, .int .u64 0, .string ⟨#[]⟩, .string ⟨#[]⟩] TEv)).heap[V.heap.size]? = some (.cells C TEv (0, 0)) := by rw [hC]; exact heap_alloc_new V _
  have hb := (Below.refl V.heap.size V).alloc (Nat.le_refl _) (.cells #[.int .i64 0, .int .u64 0, .int .i64 0, .int .i64 0, .int .u64 0, .int .u64 0, .string ⟨#[]⟩, .string ⟨#[]⟩] TEv)
  have hL := h.below hb
  rw [← hC]
  obtain ⟨w0, hw0⟩ : ∃ X, X = V.alloc (.cells #[.int .i64 0, .int .u64 0, .int .i64 0, .int .i64 0, .int .u64 0, .int .u64 0, .string ⟨#[]⟩, .string ⟨#[]⟩] TEv) := ⟨_, rfl⟩
  rw [← hw0] at hR hb hL
  have HR' := setRow_heap w0 V.heap.size _ C TEv (0, 0) hR
  have HB9 := below_setRow hb (Nat.le_refl _) C
  have hst := hstN w0 V.heap.size TEv C C rfl ho hR
  have hzv := hz w0
  obtain ⟨w9, hw9⟩ : ∃ X, X = w0.setRow V.heap.size C := ⟨_, rfl⟩
  rw [← hw9] at hst HR' HB9
  have HH := Lib.hid (And.intro HR' (And.intro HB9 hi))
  clear hC hz ho hR hb hw9 HR' HB9 h hi
  rcases hL with rfl | ⟨lo, L, sd, rfl, hL⟩
  · go_enter Try.func16, Try.ntmps16
    go_upto_region 1 with fail
    rw [← hw0]
    clear hw0
    go_wp2_with fail
    refine bodyPost_ret (v := .tuple #[.agg C, .bool false]) (res_cb Try.results16 _ _ V.heap.size C rfl (run_loadVar_row w9 V.heap.size TEv TEv C (0, 0) _ HH.out.1 Try.underlying26 rfl HH.out.2.2)) rfl ⟨rfl, HH.out.2.1⟩
  · obtain ⟨bk, pl, g, cap, S, h1, -⟩ := hL.box
    have c6 := cell_of_row w0 L 6 _ _ (0, 0) h1
    clear hL h1
    go_enter Try.func16, Try.ntmps16
    go_upto_region 1 with fail
    rw [← hw0]
    clear hw0
    go_wp2_with fail
    refine bodyPost_ret (v := .tuple #[.agg C, .bool false]) (res_cb Try.results16 _ _ V.heap.size C rfl (run_loadVar_row w9 V.heap.size TEv TEv C (0, 0) _ HH.out.1 Try.underlying26 rfl HH.out.2.2)) rfl ⟨rfl, HH.out.2.1⟩
theorem next_nil (V : World) : Calls Try.prog 5 #[.pointer none] V fun e w' => e = .returned (.tuple #[]) ∧ w' = V := by
  go_enter Try.func5, Try.ntmps5
  go_wp2
  refine bodyPost_end (by exact results_none Try.results5 _ _ _) rfl ⟨rfl, rfl⟩
theorem reset_nil (V : World) : Calls Try.prog 6 #[.pointer none] V fun e w' => e = .returned (.tuple #[]) ∧ w' = V := by
  go_enter Try.func6, Try.ntmps6
  go_wp2
  refine bodyPost_end (by exact results_none Try.results6 _ _ _) rfl ⟨rfl, rfl⟩
theorem place_nil (V : World) : Calls Try.prog 11 #[.pointer none] V fun e w' => e = .returned (.int .i64 0) ∧ w' = V := by
  go_enter Try.func11, Try.ntmps11
  go_wp2
  go_ret
  exact ⟨rfl, rfl⟩
abbrev TSc : Nat := 47
theorem scan_new (V : World) : Calls Try.prog 10 #[.int .i64 0] V fun e w' => (∃ S, e = .returned (.tuple #[.pointer (some ⟨S, 0, none⟩), .int .i64 0]) ∧ w'.heap[S]? = some (.cells #[.int .i64 0, .int .i64 0] TSc (0, 0))) ∧ Below V.heap.size V w' := by
  go_enter Try.func10, Try.ntmps10
  go_wp2_with fail
  refine (dir_in 0 (by decide) (by decide) _).mono ?_
  rintro _ w1 ⟨rfl, k, rfl⟩
  go_wp2
  go_ret2
  exact ⟨⟨V.heap.size, rfl, heap_alloc_new (V.drewN k) _⟩, (below_drewN (Below.refl V.heap.size V) k).alloc (Nat.le_refl _) _⟩
set_option maxRecDepth 20000 in
set_option maxHeartbeats 4000000 in
theorem use_core {W : World} (pw pl pe : Option Addr) (n c f : Int) (xk xh xc xf xs xt : Int) (xd xa : ByteArray)
    (HD : ∀ V, Calls Try.prog 14 #[.int .i64 n] V fun e w' => e = .returned (.tuple #[.int .i64 c, .int .i64 f]) ∧ ∃ k, w' = V.drewN k)
    (HG : ∀ V, Below W.heap.size W V → Calls Try.prog 15 #[.pointer pw, .int .i64 f] V fun e w' => e = .returned (.pointer pl) ∧ w' = V)
    (HL : ∀ V, Below W.heap.size W V → Calls Try.prog 18 #[.pointer pl, .int .i64 c] V fun e w' => e = .returned (.pointer pe) ∧ w' = V)
    (HE : EndIs W pe) :
    Calls Try.prog 12 #[.pointer pw, .int .i64 n, .agg #[.int .i64 xk, .int .u64 xh, .int .i64 xc, .int .i64 xf, .int .u64 xs, .int .u64 xt, .string xd, .string xa]] W fun e w' => e = .returned (.bool false) ∧ Below W.heap.size W w' := by
  have HD := Lib.hid HD
  have HG := Lib.hid HG
  have HL := Lib.hid HL
  have hx := heap_alloc_new W (.cells #[.int .i64 xk, .int .u64 xh, .int .i64 xc, .int .i64 xf, .int .u64 xs, .int .u64 xt, .string xd, .string xa] TEv)
  have hb := (Below.refl W.heap.size W).alloc (Nat.le_refl _) (.cells #[.int .i64 xk, .int .u64 xh, .int .i64 xc, .int .i64 xf, .int .u64 xs, .int .u64 xt, .string xd, .string xa] TEv)
  obtain ⟨w0, hw0⟩ : ∃ X, X = W.alloc (.cells #[.int .i64 xk, .int .u64 xh, .int .i64 xc, .int .i64 xf, .int .u64 xs, .int .u64 xt, .string xd, .string xa] TEv) := ⟨_, rfl⟩
  rw [← hw0] at hx hb
  have H0 := Lib.hid (And.intro hx (And.intro hb HE))
  clear hx hb HE
  go_enter Try.func12, Try.ntmps12
  go_upto_region 1 with fail
  rw [← hw0]
  clear hw0
  go_wp2_with fail
  refine (HD.out _).mono ?_
  rintro _ w1 ⟨rfl, k, rfl⟩
  obtain ⟨w1, hw1⟩ : ∃ X, X = w0.drewN k := ⟨_, rfl⟩
  have hx1 : w1.heap[W.heap.size]? = some (.cells #[.int .i64 xk, .int .u64 xh, .int .i64 xc, .int .i64 xf, .int .u64 xs, .int .u64 xt, .string xd, .string xa] TEv (0, 0)) := by rw [hw1]; exact H0.out.1
  have hb1 : Below W.heap.size W w1 := by rw [hw1]; exact below_drewN H0.out.2.1 k
  rw [← hw1]
  have HE1 := Lib.hid (H0.out.2.2.below hb1)
  have HB1 := Lib.hid hb1
  have q0 := cell_of_row w1 W.heap.size 0 _ _ (0, 0) hx1
  have q2 := cell_of_row w1 W.heap.size 2 _ _ (0, 0) hx1
  have q4 := cell_of_row w1 W.heap.size 4 _ _ (0, 0) hx1
  clear hw1 hx1 hb1 H0 w0
  go_wp2_with fail
  refine (HG.out _ HB1.out).mono ?_
  rintro _ w2 ⟨rfl, hw⟩
  obtain rfl := hw.symm
  clear hw
  go_wp2_with fail
  refine (HL.out _ HB1.out).mono ?_
  rintro _ w3 ⟨rfl, hw⟩
  obtain rfl := hw.symm
  clear hw
  by_cases hk : xk = 1
  · by_cases hc : xc = c
    · subst hk hc
      go_wp2_with fail
      refine (closed_any HE1.out).mono ?_
      rintro _ w4 ⟨rfl, hw⟩
      obtain rfl := hw.symm
      clear hw
      go_wp2_with fail
      refine (commit_any HE1.out xs).mono ?_
      rintro _ w5 ⟨rfl, b5⟩
      have hb5 := HB1.out.trans (b5.mono HB1.out.size)
      obtain ⟨C, hC⟩ : ∃ C, C = z32 := ⟨_, rfl⟩
      have hst := run_storeCells_new (P := Try.prog) w5 TSm #[.int .u8 0, .int .u8 0, .int .u8 0, .int .u8 0, .int .u8 0, .int .u8 0, .int .u8 0, .int .u8 0, .int .u8 0, .int .u8 0, .int .u8 0, .int .u8 0, .int .u8 0, .int .u8 0, .int .u8 0, .int .u8 0, .int .u8 0, .int .u8 0, .int .u8 0, .int .u8 0, .int .u8 0, .int .u8 0, .int .u8 0, .int .u8 0, .int .u8 0, .int .u8 0, .int .u8 0, .int .u8 0, .int .u8 0, .int .u8 0, .int .u8 0, .int .u8 0] C (i32 C (by rw [hC]; rfl)) (by rw [hC]; rfl) (by rw [hC]; exact z32_one)
      have hcs : C.size = 32 := by rw [hC]; rfl
      rw [← hC]
      have HF := Lib.hid (hb5.alloc hb5.size (.cells C TSm))
      clear hC b5 hb5 q0 q2 q4
      go_wp2
      go_ret
      exact ⟨rfl, HF.out⟩
    · subst hk
      go_wp2
      go_ret
      exact ⟨rfl, HB1.out⟩
  · go_wp2
    go_ret
    exact ⟨rfl, HB1.out⟩
end Go.Proofs.Ythamhdfkhhfmmab.Wd
