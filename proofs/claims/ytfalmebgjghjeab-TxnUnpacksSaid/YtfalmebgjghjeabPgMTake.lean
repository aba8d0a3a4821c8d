/- The page's Take of messages. -/
import Derived.Test.YtfalmebgjghjeabPgTake
import Derived.Test.YtfalmebgjghjeabMsgTake
namespace Go.Proofs.Ytfalmebgjghjeab.Rd
open Go Go.RowKit Num Texts Packet
open Msg (M7)

theorem R2.msg_okay (r : R2) (h : r.okay) : r.msg.2.okay := by
  have h1 := R2.packet_okay _ (R2.num_okay r 4 h)
  unfold R2.msg
  dsimp only
  split
  · exact R2.text_okay _ _ h1
  · exact h1

set_option maxRecDepth 20000 in
set_option maxHeartbeats 2000000 in
theorem pmtake_any (R : Nat) (S : ByteArray) (r : R2) (hok : r.okay) (hs : S.size ≤ 1099511627776) (W : World) (hR : PLies W R S r) :
    Calls Try.prog 28 #[.pointer (some ⟨R, 0, none⟩)] W
      fun e w' => e = .returned (.agg r.msg.1.cells) ∧ PLies w' R S r.msg.2 ∧ Only R W w' := by
  have hlt := hR.lt
  obtain ⟨W0, hW0⟩ : ∃ X, X = (W.alloc (.cells #[.int .i64 0, .int .i64 0, .int .i64 0, .int .u64 0, .int .u64 0, .string ⟨#[]⟩, .string ⟨#[]⟩] 50)).alloc (.cells #[.int .i64 0, .int .i64 0, .int .i64 0, .int .u64 0, .int .u64 0, .string ⟨#[]⟩, .string ⟨#[]⟩] 50) := ⟨_, rfl⟩
  have hA : W0.heap[W.heap.size]? = some (.cells #[.int .i64 0, .int .i64 0, .int .i64 0, .int .u64 0, .int .u64 0, .string ⟨#[]⟩, .string ⟨#[]⟩] 50 (0, 0)) := by
    rw [hW0, Below.heap_alloc _ _ _ (by simp)]; exact heap_alloc_new _ _
  have hB : W0.heap[W.heap.size + 1]? = some (.cells #[.int .i64 0, .int .i64 0, .int .i64 0, .int .u64 0, .int .u64 0, .string ⟨#[]⟩, .string ⟨#[]⟩] 50 (0, 0)) := by
    have := heap_alloc_new (W.alloc (.cells #[.int .i64 0, .int .i64 0, .int .i64 0, .int .u64 0, .int .u64 0, .string ⟨#[]⟩, .string ⟨#[]⟩] 50)) (.cells #[.int .i64 0, .int .i64 0, .int .i64 0, .int .u64 0, .int .u64 0, .string ⟨#[]⟩, .string ⟨#[]⟩] 50)
    rw [hW0]; simpa using this
  have hO : Only R W W0 := by rw [hW0]; exact ((Only.refl R W).alloc _).alloc _
  have hR0 : PLies W0 R S r := hR.heap (by rw [hW0, Below.heap_alloc _ _ _ (by simp; omega), Below.heap_alloc _ _ _ hlt])
  have HA0 := Lib.hid hA
  have HB0 := Lib.hid hB
  have HO0 := Lib.hid hO
  have HR0 := Lib.hid hR0
  have hok1 := R2.num_okay r 4 hok
  have HOK := Lib.hid (R2.msg_okay r hok)
  clear hA hB hO hR0 hR hok
  have hpk : r.msg = (let a := r.num 4
    let p := a.2.packet
    let q := if a.1 = 3 then p.2.text 64 else (⟨#[]⟩, p.2)
    (if q.2.failed then zeroM else ⟨(a.1 : Int), p.1.c, p.1.f, p.1.s, p.1.t, p.1.d, q.1⟩, q.2)) := rfl
  generalize r.msg = PK at hpk HOK ⊢
  have HP := Lib.hid hpk
  clear hpk
  go_enter Try.func28, Try.ntmps28
  go_upto_region 2 with fail
  rw [← hW0]
  clear hW0
  go_wp2_with fail
  refine (pnum_any R S r 4 hs _ HR0.out).mono ?_
  rintro _ w1 ⟨rfl, hR, hO⟩
  have hA := (hO.block _ (Array.getElem?_eq_some_iff.1 HA0.out).1 (by omega)).trans HA0.out
  have hB := (hO.block _ (Array.getElem?_eq_some_iff.1 HB0.out).1 (by omega)).trans HB0.out
  have hOO := HO0.out.trans hO
  have hn0 : (r.num 4).1 ≤ 4 := R2.num_val _ _
  generalize r.num 4 = x at *
  obtain ⟨n0, r1⟩ := x
  dsimp only at *
  have hi0 : (n0 : Int) ≤ 4 := by omega
  obtain ⟨G, hG⟩ : ∃ G, G = W.heap.size + 1 := ⟨_, rfl⟩
  rw [← hG] at hB ⊢
  have cB : w1.cell? ⟨G, 0, none⟩ = some (.int .i64 0) := cell_at hB 0
  have fB := free_at hB 0
  have hRn := hR.off (i := 0) (show R ≠ G by omega) (.int .i64 (n0 : Int))
  have hAn := set_off (i := 0) hA (show W.heap.size ≠ G by omega) (.int .i64 (n0 : Int))
  have hBn := set_at hB 0 (.int .i64 (n0 : Int))
  have hOn := hOO.setNew (show W.heap.size ≤ G by omega) 0 (.int .i64 (n0 : Int))
  obtain ⟨V1, hV⟩ : ∃ X, X = w1.setCell ⟨G, 0, none⟩ (.int .i64 (n0 : Int)) := ⟨_, rfl⟩
  rw [← hV] at hRn hAn hBn hOn
  have HR1 := Lib.hid hRn
  have HA1 := Lib.hid hAn
  have HB1 := Lib.hid (show V1.heap[G]? = some (.cells #[.int .i64 (n0 : Int), .int .i64 0, .int .i64 0, .int .u64 0, .int .u64 0, .string ⟨#[]⟩, .string ⟨#[]⟩] 50 (0, 0)) from hBn)
  have HO1 := Lib.hid hOn
  have HV := Lib.hid hV
  have hWG : W.heap.size < G := by omega
  clear hR hA hB hOO hO hRn hAn hBn hOn hV HR0 HA0 HB0 HO0 hG
  go_upto_region 3 with fail
  rw [← HV.out]
  clear HV cB fB
  go_wp2_with fail
  refine (ptake_any R S r1 hok1 hs _ HR1.out).mono ?_
  rintro _ w2 ⟨rfl, hR2, hO2⟩
  have hA2 := (hO2.block _ (Array.getElem?_eq_some_iff.1 HA1.out).1 (by omega)).trans HA1.out
  have hB2 := (hO2.block _ (Array.getElem?_eq_some_iff.1 HB1.out).1 (by omega)).trans HB1.out
  have hO2' := HO1.out.trans hO2
  have hok2 := R2.packet_okay r1 hok1
  generalize r1.packet = x at *
  obtain ⟨⟨c, f, s, t, d⟩, r2⟩ := x
  unfold P5.cells
  dsimp only at *
  obtain ⟨b0, b1, b2, b3, b4, b5, b6⟩ : _ ∧ _ ∧ _ ∧ _ ∧ _ ∧ _ ∧ _ := ⟨cell_at hB2 0, cell_at hB2 1, cell_at hB2 2, cell_at hB2 3, cell_at hB2 4, cell_at hB2 5, cell_at hB2 6⟩
  have fb := fun i => free_at hB2 i
  have f1 := fb 1
  have f2 := fb 2
  have f3 := fb 3
  have f4 := fb 4
  have f5 := fb 5
  clear fb
  go_upto_region 4 with fail
  obtain ⟨V3, hV⟩ : ∃ X, X = ((((w2.setCell ⟨G, 1, none⟩ (.int .i64 c)).setCell ⟨G, 2, none⟩ (.int .i64 f)).setCell ⟨G, 3, none⟩ (.int .u64 s)).setCell ⟨G, 4, none⟩ (.int .u64 t)).setCell ⟨G, 5, none⟩ (.string d) := ⟨_, rfl⟩
  have hB3 : V3.heap[G]? = some (.cells #[.int .i64 (n0 : Int), .int .i64 c, .int .i64 f, .int .u64 s, .int .u64 t, .string d, .string ⟨#[]⟩] 50 (0, 0)) := by rw [hV]; exact set_at (set_at (set_at (set_at (set_at hB2 1 _) 2 _) 3 _) 4 _) 5 _
  have hA3 : V3.heap[W.heap.size]? = some (.cells #[.int .i64 0, .int .i64 0, .int .i64 0, .int .u64 0, .int .u64 0, .string ⟨#[]⟩, .string ⟨#[]⟩] 50 (0, 0)) := by rw [hV]; exact set_off (set_off (set_off (set_off (set_off hA2 (by omega) _) (by omega) _) (by omega) _) (by omega) _) (by omega) _
  have hR3 : PLies V3 R S r2 := by rw [hV]; exact ((((hR2.off (by omega) _).off (by omega) _).off (by omega) _).off (by omega) _).off (by omega) _
  have hO3 : Only R W V3 := by rw [hV]; exact ((((hO2'.setNew (by omega) _ _).setNew (by omega) _ _).setNew (by omega) _ _).setNew (by omega) _ _).setNew (by omega) _ _
  rw [← hV]
  clear hV hO2 hA2 hB2 hO2' hR2 b0 b1 b2 b3 b4 b5 b6 f1 f2 f3 f4 f5 HA1 HB1 HR1 HO1
  have b0 : V3.cell? ⟨G, 0, none⟩ = some (.int .i64 (n0 : Int)) := cell_at hB3 0
  have b2 : V3.cell? ⟨R, 2, none⟩ = some (.int .i64 r2.b) := hR3.err
  have HB3 := Lib.hid hB3
  have HA3 := Lib.hid hA3
  have HR3 := Lib.hid hR3
  have HO3 := Lib.hid hO3
  clear hB3 hA3 hR3 hO3
  by_cases hrb : r2.b = 0
  · rw [hrb] at b2
    by_cases h3 : n0 = 3
    · subst h3
      go_wp2_with fail
      refine (pText_any R S r2 64 (by decide) hs _ HR3.out).mono ?_
      rintro _ w4 ⟨rfl, hR4, hO4⟩
      have hA4 := (hO4.block _ (Array.getElem?_eq_some_iff.1 HA3.out).1 (by omega)).trans HA3.out
      have hB4 := (hO4.block _ (Array.getElem?_eq_some_iff.1 HB3.out).1 (by omega)).trans HB3.out
      have hO4' := HO3.out.trans hO4
      have HP2 : Hid (PK = (if (r2.text 64).2.failed then zeroM else ⟨3, c, f, s, t, d, (r2.text 64).1⟩, (r2.text 64).2)) := Lib.hid (by rw [HP.out]; rfl)
      generalize r2.text 64 = x at *
      obtain ⟨a, r3⟩ := x
      dsimp only at *
      have c6 : w4.cell? ⟨G, 6, none⟩ = some (.string ⟨#[]⟩) := cell_at hB4 6
      have f6 := free_at hB4 6
      clear b0 b2
      go_upto_region 6 with fail
      obtain ⟨V5, hV⟩ : ∃ X, X = w4.setCell ⟨G, 6, none⟩ (.string a) := ⟨_, rfl⟩
      have hB5 : V5.heap[G]? = some (.cells #[.int .i64 3, .int .i64 c, .int .i64 f, .int .u64 s, .int .u64 t, .string d, .string a] 50 (0, 0)) := by rw [hV]; exact set_at hB4 6 _
      have hA5 : V5.heap[W.heap.size]? = some (.cells #[.int .i64 0, .int .i64 0, .int .i64 0, .int .u64 0, .int .u64 0, .string ⟨#[]⟩, .string ⟨#[]⟩] 50 (0, 0)) := by rw [hV]; exact set_off hA4 (by omega) _
      have hR5 : PLies V5 R S r3 := by rw [hV]; exact hR4.off (by omega) _
      have hO5 : Only R W V5 := by rw [hV]; exact hO4'.setNew (by omega) _ _
      rw [← hV]
      clear hV hB4 hA4 hR4 hO4 hO4' c6 f6 HB3 HA3 HR3 HO3
      obtain ⟨C, hC⟩ : ∃ C : Array Value, C = #[.int .i64 3, .int .i64 c, .int .i64 f, .int .u64 s, .int .u64 t, .string d, .string a] := ⟨_, rfl⟩
      have hCm : C = (⟨3, c, f, s, t, d, a⟩ : M7).cells := hC
      rw [← hC] at hB5
      have hz : C.size = 7 := by rw [hC]; rfl
      have ho : C.all (·.oneCell') = true := by rw [hCm]; exact cells7_one _
      have HC := Lib.hid hCm
      have HB5 := Lib.hid hB5
      have HA5 := Lib.hid hA5
      have HR5 := Lib.hid hR5
      have HO5 := Lib.hid hO5
      clear hC hCm hB5 hA5 hR5 hO5
      have c2 : V5.cell? ⟨R, 2, none⟩ = some (.int .i64 r3.b) := HR5.out.err
      have hfb : r3.failed = !(r3.b == 0) := R2.failed_iff r3 (by have := HOK.out; rw [HP2.out] at this; exact this)
      by_cases hb : r3.b = 0
      · have HP3 : Hid (PK.1.cells = C ∧ PK.2 = r3) := Lib.hid (by rw [HP2.out, hfb, hb, HC.out]; exact ⟨rfl, rfl⟩)
        rw [hb] at c2
        clear hfb HP2 HP HOK
        go_upto_region 8 with fail
        refine wp_region_lit ?_
        refine wpList_load_row rfl 50 _ rfl G rfl 50 C (0, 0) _ HB5.out Try.underlying50 rfl (i7 _ hz) ?_
        refine wpList_store_rowTo rfl 50 _ _ rfl rfl W.heap.size C rfl rfl 50 _ HA5.out (i7 _ hz) (by rw [hz]; rfl) ho ?_
        refine wpList_nil ?_
        have HR' := setRow_heap V5 W.heap.size _ C 50 (0, 0) HA5.out
        have HRr := HR5.out.heap (setRow_other V5 W.heap.size R C (by omega))
        have HOr := HO5.out.setRow (Nat.le_refl _) C
        obtain ⟨W9, hW9⟩ : ∃ W9, W9 = V5.setRow W.heap.size C := ⟨_, rfl⟩
        rw [← hW9] at HR' HRr HOr ⊢
        clear hW9 HA5 HR5 HO5
        go_wp2_with fail
        exact bodyPost_ret (results_cell_row Try.results28 _ _ W.heap.size 50 C (0, 0) _ rfl HR' Try.underlying50 rfl (i7 _ hz)) rfl ⟨by rw [HP3.out.1], by rw [HP3.out.2]; exact HRr, HOr⟩
      · have hbf : (r3.b == 0) = false := by simpa using hb
        have HP3 : Hid (PK = (zeroM, r3)) := Lib.hid (by rw [HP2.out, hfb, hbf]; rfl)
        clear hfb HP2 HP HOK HB5
        go_upto_region 7 with fail
        refine wp_region_lit ?_
        refine wpList_step (fun K hK => ?_)
        go_simp
        refine hK _ _ ?_
        clear hK K
        refine wpList_store_rowTo rfl 50 _ _ rfl rfl W.heap.size zeroM.cells rfl rfl 50 _ HA5.out (i7 _ rfl) rfl (cells7_one _) ?_
        refine wpList_nil ?_
        have HR' := setRow_heap V5 W.heap.size _ zeroM.cells 50 (0, 0) HA5.out
        have HRr := HR5.out.heap (setRow_other V5 W.heap.size R zeroM.cells (by omega))
        have HOr := HO5.out.setRow (Nat.le_refl _) zeroM.cells
        obtain ⟨W9, hW9⟩ : ∃ W9, W9 = V5.setRow W.heap.size zeroM.cells := ⟨_, rfl⟩
        rw [← hW9] at HR' HRr HOr ⊢
        clear hW9 HA5 HR5 HO5
        go_wp2_with fail
        exact bodyPost_ret (results_cell_row Try.results28 _ _ W.heap.size 50 zeroM.cells (0, 0) _ rfl HR' Try.underlying50 rfl (i7 _ rfl)) rfl ⟨by rw [HP3.out], by rw [HP3.out]; exact HRr, HOr⟩
    · have h3i : ((n0 : Int) == 3) = false := by simp; omega
      have h3d : decide ((n0 : Int) = 3) = false := by simp; omega
      have HP2 : Hid (PK = (if r2.failed then zeroM else ⟨(n0 : Int), c, f, s, t, d, ⟨#[]⟩⟩, r2)) := Lib.hid (by rw [HP.out, if_neg h3])
      obtain ⟨V5, hV⟩ : ∃ X, X = V3 := ⟨_, rfl⟩
      have hB5 : V5.heap[G]? = some (.cells #[.int .i64 (n0 : Int), .int .i64 c, .int .i64 f, .int .u64 s, .int .u64 t, .string d, .string ⟨#[]⟩] 50 (0, 0)) := by rw [hV]; exact HB3.out
      have hA5 : V5.heap[W.heap.size]? = some (.cells #[.int .i64 0, .int .i64 0, .int .i64 0, .int .u64 0, .int .u64 0, .string ⟨#[]⟩, .string ⟨#[]⟩] 50 (0, 0)) := by rw [hV]; exact HA3.out
      have hR5 : PLies V5 R S r2 := by rw [hV]; exact HR3.out
      have hO5 : Only R W V5 := by rw [hV]; exact HO3.out
      go_upto_region 6 with fail
      rw [← hV]
      clear hV HB3 HA3 HR3 HO3 b0 b2 h3i h3d hrb
      obtain ⟨r3, hr3⟩ : ∃ x, x = r2 := ⟨_, rfl⟩
      rw [← hr3] at HP2 hR5
      clear hr3
      obtain ⟨C, hC⟩ : ∃ C : Array Value, C = #[.int .i64 (n0 : Int), .int .i64 c, .int .i64 f, .int .u64 s, .int .u64 t, .string d, .string ⟨#[]⟩] := ⟨_, rfl⟩
      have hCm : C = (⟨(n0 : Int), c, f, s, t, d, ⟨#[]⟩⟩ : M7).cells := hC
      rw [← hC] at hB5
      have hz : C.size = 7 := by rw [hC]; rfl
      have ho : C.all (·.oneCell') = true := by rw [hCm]; exact cells7_one _
      have HC := Lib.hid hCm
      have HB5 := Lib.hid hB5
      have HA5 := Lib.hid hA5
      have HR5 := Lib.hid hR5
      have HO5 := Lib.hid hO5
      clear hC hCm hB5 hA5 hR5 hO5
      have c2 : V5.cell? ⟨R, 2, none⟩ = some (.int .i64 r3.b) := HR5.out.err
      have hfb : r3.failed = !(r3.b == 0) := R2.failed_iff r3 (by have := HOK.out; rw [HP2.out] at this; exact this)
      by_cases hb : r3.b = 0
      · have HP3 : Hid (PK.1.cells = C ∧ PK.2 = r3) := Lib.hid (by rw [HP2.out, hfb, hb, HC.out]; exact ⟨rfl, rfl⟩)
        rw [hb] at c2
        clear hfb HP2 HP HOK
        go_upto_region 8 with fail
        refine wp_region_lit ?_
        refine wpList_load_row rfl 50 _ rfl G rfl 50 C (0, 0) _ HB5.out Try.underlying50 rfl (i7 _ hz) ?_
        refine wpList_store_rowTo rfl 50 _ _ rfl rfl W.heap.size C rfl rfl 50 _ HA5.out (i7 _ hz) (by rw [hz]; rfl) ho ?_
        refine wpList_nil ?_
        have HR' := setRow_heap V5 W.heap.size _ C 50 (0, 0) HA5.out
        have HRr := HR5.out.heap (setRow_other V5 W.heap.size R C (by omega))
        have HOr := HO5.out.setRow (Nat.le_refl _) C
        obtain ⟨W9, hW9⟩ : ∃ W9, W9 = V5.setRow W.heap.size C := ⟨_, rfl⟩
        rw [← hW9] at HR' HRr HOr ⊢
        clear hW9 HA5 HR5 HO5
        go_wp2_with fail
        exact bodyPost_ret (results_cell_row Try.results28 _ _ W.heap.size 50 C (0, 0) _ rfl HR' Try.underlying50 rfl (i7 _ hz)) rfl ⟨by rw [HP3.out.1], by rw [HP3.out.2]; exact HRr, HOr⟩
      · have hbf : (r3.b == 0) = false := by simpa using hb
        have HP3 : Hid (PK = (zeroM, r3)) := Lib.hid (by rw [HP2.out, hfb, hbf]; rfl)
        clear hfb HP2 HP HOK HB5
        go_upto_region 7 with fail
        refine wp_region_lit ?_
        refine wpList_step (fun K hK => ?_)
        go_simp
        refine hK _ _ ?_
        clear hK K
        refine wpList_store_rowTo rfl 50 _ _ rfl rfl W.heap.size zeroM.cells rfl rfl 50 _ HA5.out (i7 _ rfl) rfl (cells7_one _) ?_
        refine wpList_nil ?_
        have HR' := setRow_heap V5 W.heap.size _ zeroM.cells 50 (0, 0) HA5.out
        have HRr := HR5.out.heap (setRow_other V5 W.heap.size R zeroM.cells (by omega))
        have HOr := HO5.out.setRow (Nat.le_refl _) zeroM.cells
        obtain ⟨W9, hW9⟩ : ∃ W9, W9 = V5.setRow W.heap.size zeroM.cells := ⟨_, rfl⟩
        rw [← hW9] at HR' HRr HOr ⊢
        clear hW9 HA5 HR5 HO5
        go_wp2_with fail
        exact bodyPost_ret (results_cell_row Try.results28 _ _ W.heap.size 50 zeroM.cells (0, 0) _ rfl HR' Try.underlying50 rfl (i7 _ rfl)) rfl ⟨by rw [HP3.out], by rw [HP3.out]; exact HRr, HOr⟩
  · have hbi : (r2.b == 0) = false := by simpa using hrb
    have hbd : decide (r2.b = 0) = false := by simpa using hrb
    have htx : r2.text 64 = (⟨#[]⟩, r2) := by unfold R2.text; rw [if_neg hrb]
    have HP3 : Hid (PK = (zeroM, r2)) := Lib.hid (by
      have hf : r2.failed = true := by rw [R2.failed_iff r2 hok2, hbi]; rfl
      rw [HP.out]
      try dsimp only
      by_cases h3 : n0 = 3
      · rw [if_pos h3, htx]; dsimp only; rw [hf]; rfl
      · rw [if_neg h3]; dsimp only; rw [hf]; rfl)
    obtain ⟨V5, hV⟩ : ∃ X, X = V3 := ⟨_, rfl⟩
    have HA5 := Lib.hid (show V5.heap[W.heap.size]? = some (.cells #[.int .i64 0, .int .i64 0, .int .i64 0, .int .u64 0, .int .u64 0, .string ⟨#[]⟩, .string ⟨#[]⟩] 50 (0, 0)) by rw [hV]; exact HA3.out)
    have HR5 := Lib.hid (show PLies V5 R S r2 by rw [hV]; exact HR3.out)
    have HO5 := Lib.hid (show Only R W V5 by rw [hV]; exact HO3.out)
    go_upto_region 6 with fail
    rw [← hV]
    clear hV HB3 HA3 HR3 HO3 b0 b2 HP htx
    have c2 : V5.cell? ⟨R, 2, none⟩ = some (.int .i64 r2.b) := HR5.out.err
    go_upto_region 7 with fail
    refine wp_region_lit ?_
    refine wpList_step (fun K hK => ?_)
    go_simp
    refine hK _ _ ?_
    clear hK K
    refine wpList_store_rowTo rfl 50 _ _ rfl rfl W.heap.size zeroM.cells rfl rfl 50 _ HA5.out (i7 _ rfl) rfl (cells7_one _) ?_
    refine wpList_nil ?_
    have HR' := setRow_heap V5 W.heap.size _ zeroM.cells 50 (0, 0) HA5.out
    have HRr := HR5.out.heap (setRow_other V5 W.heap.size R zeroM.cells (by omega))
    have HOr := HO5.out.setRow (Nat.le_refl _) zeroM.cells
    obtain ⟨W9, hW9⟩ : ∃ W9, W9 = V5.setRow W.heap.size zeroM.cells := ⟨_, rfl⟩
    rw [← hW9] at HR' HRr HOr ⊢
    clear hW9 HA5 HR5 HO5
    go_wp2_with fail
    exact bodyPost_ret (results_cell_row Try.results28 _ _ W.heap.size 50 zeroM.cells (0, 0) _ rfl HR' Try.underlying50 rfl (i7 _ rfl)) rfl ⟨by rw [HP3.out], by rw [HP3.out]; exact HRr, HOr⟩
end Go.Proofs.Ytfalmebgjghjeab.Rd
