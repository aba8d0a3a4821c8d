/- msg.Take: a message that is read. -/
import Derived.Test.YtfalmebgjghjeabPacketTake
import Derived.Test.YtfalmebgjghjeabMsgMath
import Derived.Great.BuildSlice
namespace Go.Proofs.Ytfalmebgjghjeab.Rd
open Go Go.RowKit Num Texts Packet
open Msg (M7)

def zeroM : M7 := ⟨0, 0, 0, 0, 0, ⟨#[]⟩, ⟨#[]⟩⟩
/-- the message that is read, and the reader behind it -/
def R2.msg (r : R2) : M7 × R2 :=
  let a := r.num 4
  let p := a.2.packet
  let q := if a.1 = 3 then p.2.text 64 else (⟨#[]⟩, p.2)
  (if q.2.failed then zeroM else ⟨(a.1 : Int), p.1.c, p.1.f, p.1.s, p.1.t, p.1.d, q.1⟩, q.2)
theorem R2.msg_rest (r : R2) : r.msg.2.s.size ≤ r.s.size := by
  have h := Nat.le_trans (R2.packet_rest (r.num 4).2) (R2.num_rest r 4)
  unfold R2.msg
  dsimp only
  split
  · exact Nat.le_trans (R2.text_rest _ _) h
  · exact h
theorem cells7_one (m : M7) : m.cells.all (·.oneCell') = true := by
  rw [Array.all_eq_true']
  intro x hx
  simp only [M7.cells, List.mem_toArray, List.mem_cons, List.not_mem_nil, or_false] at hx
  rcases hx with rfl | rfl | rfl | rfl | rfl | rfl | rfl <;> rfl
theorem i7 (C : Array Value) (h : C.size = 7) : (Try.prog.info? 50).map (·.size) = some C.size := by rw [h]; kernel_rfl

set_option maxRecDepth 20000 in
set_option maxHeartbeats 2000000 in
/-- how Take ends -/
theorem mtake_any (R : Nat) (r : R2) (hs : r.s.size ≤ 1099511627776) (W : World) (hR : Lies W R r) :
    Calls Try.prog 40 #[.pointer (some ⟨R, 0, none⟩)] W
      fun e w' => e = .returned (.agg r.msg.1.cells) ∧ Lies w' R r.msg.2 ∧ Only R W w' := by
  have hlt := (Array.getElem?_eq_some_iff.1 hR).1
  obtain ⟨W0, hW0⟩ : ∃ X, X = W.alloc (.cells #[.int .i64 0, .int .i64 0, .int .i64 0, .int .u64 0, .int .u64 0, .string ⟨#[]⟩, .string ⟨#[]⟩] 50) := ⟨_, rfl⟩
  have HA0 := Lib.hid (show W0.heap[W.heap.size]? = some (.cells #[.int .i64 0, .int .i64 0, .int .i64 0, .int .u64 0, .int .u64 0, .string ⟨#[]⟩, .string ⟨#[]⟩] 50 (0, 0)) by rw [hW0]; exact heap_alloc_new _ _)
  have HO0 := Lib.hid (show Only R W W0 by rw [hW0]; exact (Only.refl R W).alloc _)
  have HR0 := Lib.hid (show Lies W0 R r by rw [hW0]; unfold Lies; rw [Below.heap_alloc _ _ _ hlt]; exact hR)
  have hpk : r.msg = (let a := r.num 4
    let p := a.2.packet
    let q := if a.1 = 3 then p.2.text 64 else (⟨#[]⟩, p.2)
    (if q.2.failed then zeroM else ⟨(a.1 : Int), p.1.c, p.1.f, p.1.s, p.1.t, p.1.d, q.1⟩, q.2)) := rfl
  have HP := Lib.hid hpk
  clear hpk hR
  have HS0 := Lib.hid hs
  clear hs
  go_enter Try.func40, Try.ntmps40
  go_upto_region 1 with fail
  rw [← hW0]
  clear hW0
  go_wp2_with fail
  refine (rnum_any R r 4 (by decide) HS0.out _ HR0.out).mono ?_
  rintro _ w1 ⟨rfl, hR1, hO1⟩
  have hA1 := (hO1.block _ (Array.getElem?_eq_some_iff.1 HA0.out).1 (by omega)).trans HA0.out
  have hO1' := HO0.out.trans hO1
  have hs1 : (r.num 4).2.s.size ≤ 1099511627776 := Nat.le_trans (R2.num_rest _ _) HS0.out
  have hn0 : (r.num 4).1 ≤ 4 := R2.num_val _ _
  generalize r.num 4 = x at *
  obtain ⟨n0, r1⟩ := x
  dsimp only at *
  have hi0 : (n0 : Int) ≤ 4 := by omega
  go_upto_region 2 with fail
  obtain ⟨V1, hV⟩ : ∃ X, X = w1.alloc (.cells #[.int .i64 (n0 : Int), .int .i64 0, .int .i64 0, .int .u64 0, .int .u64 0, .string ⟨#[]⟩, .string ⟨#[]⟩] 50) := ⟨_, rfl⟩
  have hW1 : W.heap.size < w1.heap.size := (Array.getElem?_eq_some_iff.1 hA1).1
  have HA1 := Lib.hid (show V1.heap[W.heap.size]? = some (.cells #[.int .i64 0, .int .i64 0, .int .i64 0, .int .u64 0, .int .u64 0, .string ⟨#[]⟩, .string ⟨#[]⟩] 50 (0, 0)) by rw [hV, Below.heap_alloc _ _ _ hW1]; exact hA1)
  have HB1 := Lib.hid (show V1.heap[w1.heap.size]? = some (.cells #[.int .i64 (n0 : Int), .int .i64 0, .int .i64 0, .int .u64 0, .int .u64 0, .string ⟨#[]⟩, .string ⟨#[]⟩] 50 (0, 0)) by rw [hV]; exact heap_alloc_new _ _)
  have HR1 := Lib.hid (show Lies V1 R r1 by rw [hV]; unfold Lies; rw [Below.heap_alloc _ _ _ (by omega)]; exact hR1)
  have HO1 := Lib.hid (show Only R W V1 by rw [hV]; exact hO1'.alloc _)
  rw [← hV]
  clear hV hR1 hA1 hO1 hO1' HA0 HO0 HR0 HS0
  obtain ⟨G, hG⟩ : ∃ G, G = w1.heap.size := ⟨_, rfl⟩
  rw [← hG] at HB1 hW1 ⊢
  clear hG
  go_wp2_with fail
  refine (take_any R r1 hs1 _ HR1.out).mono ?_
  rintro _ w2 ⟨rfl, hR2, hO2⟩
  have hA2 := (hO2.block _ (Array.getElem?_eq_some_iff.1 HA1.out).1 (by omega)).trans HA1.out
  have hB2 := (hO2.block _ (Array.getElem?_eq_some_iff.1 HB1.out).1 (by omega)).trans HB1.out
  have hO2' := HO1.out.trans hO2
  have hs2 : r1.packet.2.s.size ≤ 1099511627776 := Nat.le_trans (R2.packet_rest _) hs1
  generalize r1.packet = x at *
  obtain ⟨⟨c, f, s, t, d⟩, r2⟩ := x
  unfold P5.cells
  dsimp only at *
  obtain ⟨b0, b1, b2, b3, b4, b5, b6⟩ : _ ∧ _ ∧ _ ∧ _ ∧ _ ∧ _ ∧ _ := ⟨cell_at hB2 0, cell_at hB2 1, cell_at hB2 2, cell_at hB2 3, cell_at hB2 4, cell_at hB2 5, cell_at hB2 6⟩
  have fb := fun i => free_at hB2 i
  have f1 := fb 1
  have f2 := fb 2
  have f3 := fb 3
  have f4 := fb 4
  have f5 := fb 5
  clear fb
  go_upto_region 3 with fail
  obtain ⟨V3, hV⟩ : ∃ X, X = ((((w2.setCell ⟨G, 1, none⟩ (.int .i64 c)).setCell ⟨G, 2, none⟩ (.int .i64 f)).setCell ⟨G, 3, none⟩ (.int .u64 s)).setCell ⟨G, 4, none⟩ (.int .u64 t)).setCell ⟨G, 5, none⟩ (.string d) := ⟨_, rfl⟩
  have hB3 : V3.heap[G]? = some (.cells #[.int .i64 (n0 : Int), .int .i64 c, .int .i64 f, .int .u64 s, .int .u64 t, .string d, .string ⟨#[]⟩] 50 (0, 0)) := by rw [hV]; exact set_at (set_at (set_at (set_at (set_at hB2 1 _) 2 _) 3 _) 4 _) 5 _
  have hA3 : V3.heap[W.heap.size]? = some (.cells #[.int .i64 0, .int .i64 0, .int .i64 0, .int .u64 0, .int .u64 0, .string ⟨#[]⟩, .string ⟨#[]⟩] 50 (0, 0)) := by rw [hV]; exact set_off (set_off (set_off (set_off (set_off hA2 (by omega) _) (by omega) _) (by omega) _) (by omega) _) (by omega) _
  have hR3 : Lies V3 R r2 := by rw [hV]; exact set_off (set_off (set_off (set_off (set_off hR2 (by omega) _) (by omega) _) (by omega) _) (by omega) _) (by omega) _
  have hO3 : Only R W V3 := by rw [hV]; exact ((((hO2'.setNew (by omega) _ _).setNew (by omega) _ _).setNew (by omega) _ _).setNew (by omega) _ _).setNew (by omega) _ _
  rw [← hV]
  clear hV hO2 hA2 hB2 hO2' hR2 b0 b1 b2 b3 b4 b5 b6 f1 f2 f3 f4 f5 HA1 HB1 HR1 HO1 hs1
  have b0 : V3.cell? ⟨G, 0, none⟩ = some (.int .i64 (n0 : Int)) := cell_at hB3 0
  by_cases h3 : n0 = 3
  · subst h3
    have HB3 := Lib.hid hB3
    have HA3 := Lib.hid hA3
    have HR3 := Lib.hid hR3
    have HO3 := Lib.hid hO3
    clear hB3 hA3 hR3 hO3
    go_wp2_with fail
    refine (rtext_any R r2 64 (by decide) hs2 _ HR3.out).mono ?_
    rintro _ w4 ⟨rfl, hR4, hO4⟩
    have hA4 := (hO4.block _ (Array.getElem?_eq_some_iff.1 HA3.out).1 (by omega)).trans HA3.out
    have hB4 := (hO4.block _ (Array.getElem?_eq_some_iff.1 HB3.out).1 (by omega)).trans HB3.out
    have hO4' := HO3.out.trans hO4
    have HP2 : Hid (r.msg = (if (r2.text 64).2.failed then zeroM else ⟨3, c, f, s, t, d, (r2.text 64).1⟩, (r2.text 64).2)) := Lib.hid (by rw [HP.out]; rfl)
    generalize r2.text 64 = x at *
    obtain ⟨a, r3⟩ := x
    dsimp only at *
    have c6 : w4.cell? ⟨G, 6, none⟩ = some (.string ⟨#[]⟩) := cell_at hB4 6
    have f6 := free_at hB4 6
    clear b0
    go_upto_region 5 with fail
    obtain ⟨V5, hV⟩ : ∃ X, X = w4.setCell ⟨G, 6, none⟩ (.string a) := ⟨_, rfl⟩
    have hB5 : V5.heap[G]? = some (.cells #[.int .i64 3, .int .i64 c, .int .i64 f, .int .u64 s, .int .u64 t, .string d, .string a] 50 (0, 0)) := by rw [hV]; exact set_at hB4 6 _
    have hA5 : V5.heap[W.heap.size]? = some (.cells #[.int .i64 0, .int .i64 0, .int .i64 0, .int .u64 0, .int .u64 0, .string ⟨#[]⟩, .string ⟨#[]⟩] 50 (0, 0)) := by rw [hV]; exact set_off hA4 (by omega) _
    have hR5 : Lies V5 R r3 := by rw [hV]; exact set_off hR4 (by omega) _
    have hO5 : Only R W V5 := by rw [hV]; exact hO4'.setNew (by omega) _ _
    rw [← hV]
    clear hV hB4 hA4 hR4 hO4 hO4' c6 f6 HB3 HA3 HR3 HO3
    obtain ⟨C, hC⟩ : ∃ C : Array Value, C = #[.int .i64 3, .int .i64 c, .int .i64 f, .int .u64 s, .int .u64 t, .string d, .string a] := ⟨_, rfl⟩
    have hCm : C = (⟨3, c, f, s, t, d, a⟩ : M7).cells := hC
    rw [← hC] at hB5
    have hz : C.size = 7 := by rw [hC]; rfl
    have ho : C.all (·.oneCell') = true := by rw [hCm]; exact cells7_one _
    have HC := Lib.hid hCm
    have HB5 := Lib.hid hB5
    have HA5 := Lib.hid hA5
    have HR5 := Lib.hid hR5
    have HO5 := Lib.hid hO5
    clear hC hCm hB5 hA5 hR5 hO5
    go_wp2_with fail
    refine (failed_any R r3 _ HR5.out).mono ?_
    rintro _ w6 ⟨rfl, hw⟩
    obtain rfl := hw.symm
    clear hw
    cases hf : r3.failed with
    | true =>
      have HP3 : Hid (r.msg = (zeroM, r3)) := Lib.hid (by rw [HP2.out, hf, if_pos rfl])
      clear hf HB5 HP2
      go_upto_region 6 with fail
      refine wp_region_lit ?_
      refine wpList_step (fun K hK => ?_)
      go_simp
      refine hK _ _ ?_
      clear hK K
      refine wpList_store_rowTo rfl 50 _ _ rfl rfl W.heap.size zeroM.cells rfl rfl 50 _ HA5.out (i7 _ rfl) rfl (cells7_one _) ?_
      refine wpList_nil ?_
      have HR' := setRow_heap V5 W.heap.size _ zeroM.cells 50 (0, 0) HA5.out
      have HRr := (setRow_other V5 W.heap.size R zeroM.cells (by omega)).trans HR5.out
      have HOr := HO5.out.setRow (Nat.le_refl _) zeroM.cells
      obtain ⟨W9, hW9⟩ : ∃ W9, W9 = V5.setRow W.heap.size zeroM.cells := ⟨_, rfl⟩
      rw [← hW9] at HR' HRr HOr ⊢
      clear hW9 HA5 HR5 HO5
      go_wp2_with fail
      exact bodyPost_ret (results_cell_row Try.results40 _ _ W.heap.size 50 zeroM.cells (0, 0) _ rfl HR' Try.underlying50 rfl (i7 _ rfl)) rfl ⟨by rw [HP3.out], by rw [HP3.out]; exact HRr, HOr⟩
    | false =>
      have HP3 : Hid (r.msg.1.cells = C ∧ r.msg.2 = r3) := Lib.hid (by rw [HP2.out, hf, if_neg (by simp), HC.out]; exact ⟨rfl, rfl⟩)
      clear hf HP2
      go_upto_region 7 with fail
      refine wp_region_lit ?_
      refine wpList_load_row rfl 50 _ rfl G rfl 50 C (0, 0) _ HB5.out Try.underlying50 rfl (i7 _ hz) ?_
      refine wpList_store_rowTo rfl 50 _ _ rfl rfl W.heap.size C rfl rfl 50 _ HA5.out (i7 _ hz) (by rw [hz]; rfl) ho ?_
      refine wpList_nil ?_
      have HR' := setRow_heap V5 W.heap.size _ C 50 (0, 0) HA5.out
      have HRr := (setRow_other V5 W.heap.size R C (by omega)).trans HR5.out
      have HOr := HO5.out.setRow (Nat.le_refl _) C
      obtain ⟨W9, hW9⟩ : ∃ W9, W9 = V5.setRow W.heap.size C := ⟨_, rfl⟩
      rw [← hW9] at HR' HRr HOr ⊢
      clear hW9 HA5 HR5 HO5
      go_wp2_with fail
      exact bodyPost_ret (results_cell_row Try.results40 _ _ W.heap.size 50 C (0, 0) _ rfl HR' Try.underlying50 rfl (i7 _ hz)) rfl ⟨by rw [HP3.out.1], by rw [HP3.out.2]; exact HRr, HOr⟩
  · have h3i : ((n0 : Int) == 3) = false := by simp; omega
    have HP2 : Hid (r.msg = (if r2.failed then zeroM else ⟨(n0 : Int), c, f, s, t, d, ⟨#[]⟩⟩, r2)) := Lib.hid (by rw [HP.out, if_neg h3])
    obtain ⟨V5, hV⟩ : ∃ X, X = V3 := ⟨_, rfl⟩
    have hB5 : V5.heap[G]? = some (.cells #[.int .i64 (n0 : Int), .int .i64 c, .int .i64 f, .int .u64 s, .int .u64 t, .string d, .string ⟨#[]⟩] 50 (0, 0)) := by rw [hV]; exact hB3
    have hA5 : V5.heap[W.heap.size]? = some (.cells #[.int .i64 0, .int .i64 0, .int .i64 0, .int .u64 0, .int .u64 0, .string ⟨#[]⟩, .string ⟨#[]⟩] 50 (0, 0)) := by rw [hV]; exact hA3
    have hR5 : Lies V5 R r2 := by rw [hV]; exact hR3
    have hO5 : Only R W V5 := by rw [hV]; exact hO3
    go_upto_region 5 with fail
    rw [← hV]
    clear hV hB3 hA3 hR3 hO3 b0 h3i
    obtain ⟨r3, hr3⟩ : ∃ x, x = r2 := ⟨_, rfl⟩
    rw [← hr3] at HP2 hR5
    clear hr3
    obtain ⟨C, hC⟩ : ∃ C : Array Value, C = #[.int .i64 (n0 : Int), .int .i64 c, .int .i64 f, .int .u64 s, .int .u64 t, .string d, .string ⟨#[]⟩] := ⟨_, rfl⟩
    have hCm : C = (⟨(n0 : Int), c, f, s, t, d, ⟨#[]⟩⟩ : M7).cells := hC
    rw [← hC] at hB5
    have hz : C.size = 7 := by rw [hC]; rfl
    have ho : C.all (·.oneCell') = true := by rw [hCm]; exact cells7_one _
    have HC := Lib.hid hCm
    have HB5 := Lib.hid hB5
    have HA5 := Lib.hid hA5
    have HR5 := Lib.hid hR5
    have HO5 := Lib.hid hO5
    clear hC hCm hB5 hA5 hR5 hO5
    go_wp2_with fail
    refine (failed_any R r3 _ HR5.out).mono ?_
    rintro _ w6 ⟨rfl, hw⟩
    obtain rfl := hw.symm
    clear hw
    cases hf : r3.failed with
    | true =>
      have HP3 : Hid (r.msg = (zeroM, r3)) := Lib.hid (by rw [HP2.out, hf, if_pos rfl])
      clear hf HB5 HP2
      go_upto_region 6 with fail
      refine wp_region_lit ?_
      refine wpList_step (fun K hK => ?_)
      go_simp
      refine hK _ _ ?_
      clear hK K
      refine wpList_store_rowTo rfl 50 _ _ rfl rfl W.heap.size zeroM.cells rfl rfl 50 _ HA5.out (i7 _ rfl) rfl (cells7_one _) ?_
      refine wpList_nil ?_
      have HR' := setRow_heap V5 W.heap.size _ zeroM.cells 50 (0, 0) HA5.out
      have HRr := (setRow_other V5 W.heap.size R zeroM.cells (by omega)).trans HR5.out
      have HOr := HO5.out.setRow (Nat.le_refl _) zeroM.cells
      obtain ⟨W9, hW9⟩ : ∃ W9, W9 = V5.setRow W.heap.size zeroM.cells := ⟨_, rfl⟩
      rw [← hW9] at HR' HRr HOr ⊢
      clear hW9 HA5 HR5 HO5
      go_wp2_with fail
      exact bodyPost_ret (results_cell_row Try.results40 _ _ W.heap.size 50 zeroM.cells (0, 0) _ rfl HR' Try.underlying50 rfl (i7 _ rfl)) rfl ⟨by rw [HP3.out], by rw [HP3.out]; exact HRr, HOr⟩
    | false =>
      have HP3 : Hid (r.msg.1.cells = C ∧ r.msg.2 = r3) := Lib.hid (by rw [HP2.out, hf, if_neg (by simp), HC.out]; exact ⟨rfl, rfl⟩)
      clear hf HP2
      go_upto_region 7 with fail
      refine wp_region_lit ?_
      refine wpList_load_row rfl 50 _ rfl G rfl 50 C (0, 0) _ HB5.out Try.underlying50 rfl (i7 _ hz) ?_
      refine wpList_store_rowTo rfl 50 _ _ rfl rfl W.heap.size C rfl rfl 50 _ HA5.out (i7 _ hz) (by rw [hz]; rfl) ho ?_
      refine wpList_nil ?_
      have HR' := setRow_heap V5 W.heap.size _ C 50 (0, 0) HA5.out
      have HRr := (setRow_other V5 W.heap.size R C (by omega)).trans HR5.out
      have HOr := HO5.out.setRow (Nat.le_refl _) C
      obtain ⟨W9, hW9⟩ : ∃ W9, W9 = V5.setRow W.heap.size C := ⟨_, rfl⟩
      rw [← hW9] at HR' HRr HOr ⊢
      clear hW9 HA5 HR5 HO5
      go_wp2_with fail
      exact bodyPost_ret (results_cell_row Try.results40 _ _ W.heap.size 50 C (0, 0) _ rfl HR' Try.underlying50 rfl (i7 _ hz)) rfl ⟨by rw [HP3.out.1], by rw [HP3.out.2]; exact HRr, HOr⟩
end Go.Proofs.Ytfalmebgjghjeab.Rd
