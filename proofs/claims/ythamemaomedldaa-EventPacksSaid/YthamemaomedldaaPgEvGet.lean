/- The page's Get of events. -/
import Derived.Test.YthamemaomedldaaPgTake
import Derived.Test.YthamemaomedldaaEvGet
namespace Go.Proofs.Ythamemaomedldaa.Rd
open Go Go.RowKit Num Texts Packet
open Ev (E8 eright reright_any)

theorem res_pevget (tmps : Array Value) (w : World) (g : Nat) (C : Array Value) (n : Int) (hz : C.size = 8) (hp : tmps.getD 2 undef = .pointer (some ⟨g, 0, none⟩)) (h3 : tmps.getD 3 undef = .int .i64 n)
    (hg : w.heap[g]? = some (.cells C 30 (0, 0))) : (results Try.f25 tmps).run Try.prog w = .ok (.tuple #[.agg C, .int .i64 n]) w := by
  have hp' : tmps[2]?.getD undef = .pointer (some ⟨g, 0, none⟩) := by simpa using hp
  have h3' : tmps[3]?.getD undef = .int .i64 n := by simpa using h3
  simp [results, Try.results25, hp', h3', asAddr, run_loadVar_row w g 30 30 C (0, 0) _ hg Try.underlying30 rfl (i8 C hz)]

set_option maxRecDepth 20000 in
set_option maxHeartbeats 4000000 in
theorem pevget_any (s : ByteArray) (hs : s.size ≤ 1099511627776) (W : World) :
    Calls Try.prog 25 #[.string s] W fun e w' => e = .returned (.tuple #[.agg (getE s).1.cells, .int .i64 (getE s).2]) ∧ Below W.heap.size W w' := by
  have hg : getE s = if (R2.mk s 0).event.2.end' ≠ 0 then (zeroE, (R2.mk s 0).event.2.end') else if eright (R2.mk s 0).event.1 then ((R2.mk s 0).event.1, 0) else (zeroE, 3) := rfl
  have hpk : (R2.mk s 0).event = (let a := (R2.mk s 0).num 5
    let h := a.2.num 18446744073709551615
    let p := h.2.packet
    let q := if a.1 = 2 ∨ a.1 = 3 then p.2.text 64 else (⟨#[]⟩, p.2)
    (⟨(a.1 : Int), (h.1 : Int), p.1.c, p.1.f, p.1.s, p.1.t, p.1.d, q.1⟩, q.2)) := rfl
  generalize getE s = G at hg ⊢
  generalize (R2.mk s 0).event = ev at hg hpk
  have HG := Lib.hid hg
  have HP := Lib.hid hpk
  clear hg hpk
  obtain ⟨r, hr⟩ : ∃ r, r = R2.mk s 0 := ⟨_, rfl⟩
  rw [← hr] at HP
  have hok0 : r.okay := by rw [hr]; intro h; exact absurd rfl h
  obtain ⟨W0, hW0⟩ : ∃ X, X = ((W.alloc (.cells #[.int .i64 0, .int .u64 0, .int .i64 0, .int .i64 0, .int .u64 0, .int .u64 0, .string ⟨#[]⟩, .string ⟨#[]⟩] 30)).alloc (.cells #[.string s, .int .i64 0, .int .i64 0] 52)).alloc (.cells #[.int .i64 0, .int .u64 0, .int .i64 0, .int .i64 0, .int .u64 0, .int .u64 0, .string ⟨#[]⟩, .string ⟨#[]⟩] 30) := ⟨_, rfl⟩
  have hA : W0.heap[W.heap.size]? = some (.cells zeroE.cells 30 (0, 0)) := by
    rw [hW0, Below.heap_alloc _ _ _ (by simp; omega), Below.heap_alloc _ _ _ (by simp)]; exact heap_alloc_new _ _
  have hR0 : PLies W0 (W.heap.size + 1) s r := ⟨0, Nat.zero_le _, by rw [hr]; show s = s.extract 0 s.size; rw [ByteArray.extract_zero_size], by
    have h1 := heap_alloc_new (W.alloc (.cells #[.int .i64 0, .int .u64 0, .int .i64 0, .int .i64 0, .int .u64 0, .int .u64 0, .string ⟨#[]⟩, .string ⟨#[]⟩] 30)) (.cells #[.string s, .int .i64 0, .int .i64 0] 52)
    rw [hW0, hr]
    show (World.heap _)[_]? = _
    rw [Below.heap_alloc _ _ _ (by simp)]
    simpa using h1⟩
  have hB : W0.heap[W.heap.size + 2]? = some (.cells #[.int .i64 0, .int .u64 0, .int .i64 0, .int .i64 0, .int .u64 0, .int .u64 0, .string ⟨#[]⟩, .string ⟨#[]⟩] 30 (0, 0)) := by
    have h1 := heap_alloc_new ((W.alloc (.cells #[.int .i64 0, .int .u64 0, .int .i64 0, .int .i64 0, .int .u64 0, .int .u64 0, .string ⟨#[]⟩, .string ⟨#[]⟩] 30)).alloc (.cells #[.string s, .int .i64 0, .int .i64 0] 52)) (.cells #[.int .i64 0, .int .u64 0, .int .i64 0, .int .i64 0, .int .u64 0, .int .u64 0, .string ⟨#[]⟩, .string ⟨#[]⟩] 30)
    rw [hW0]; simpa using h1
  have hO : Below W.heap.size W W0 := by rw [hW0]; exact (((Below.refl _ _).alloc (Nat.le_refl _) _).alloc (by simp) _).alloc (by simp; omega) _
  have H0 := Lib.hid hA
  have HB0 := Lib.hid hB
  have HO0 := Lib.hid hO
  have HR0 := Lib.hid hR0
  clear hA hB hO hR0 hr
  go_enter Try.func25, Try.ntmps25
  go_upto_region 3 with fail
  obtain ⟨H, hH⟩ : ∃ H, H = W.heap.size := ⟨_, rfl⟩
  obtain ⟨R, hRe⟩ : ∃ R, R = W.heap.size + 1 := ⟨_, rfl⟩
  obtain ⟨B, hBe⟩ : ∃ B, B = W.heap.size + 2 := ⟨_, rfl⟩
  have e2 : W.heap.size + 1 + 1 = B := by omega
  try rw [e2]
  rw [← hW0]
  try rw [← hBe]
  rw [← hRe, ← hH]
  rw [← hBe] at HB0
  rw [← hRe] at HR0
  rw [← hH] at H0 HO0
  have hHR : H < R := by omega
  have hRB : R < B := by omega
  have hHB : H < B := by omega
  have HH := Lib.hid hH
  clear hW0 e2 hBe hRe hH
  go_wp2_with fail
  refine (pnum_any R s r 5 hs _ HR0.out).mono ?_
  rintro _ w1 ⟨rfl, hR, hO⟩
  have hA := (hO.block _ (Array.getElem?_eq_some_iff.1 H0.out).1 (by omega)).trans H0.out
  have hB := (hO.block _ (Array.getElem?_eq_some_iff.1 HB0.out).1 (by omega)).trans HB0.out
  have hOO := Only.below HO0.out hO (by omega) (by rw [HH.out]; exact HO0.out.size)
  have hn0 : (r.num 5).1 ≤ 5 := R2.num_val _ _
  have hok1 := R2.num_okay r 5 hok0
  generalize r.num 5 = x at *
  obtain ⟨n0, r1⟩ := x
  dsimp only at *
  have hi0 : (n0 : Int) ≤ 5 := by omega
  have cB : w1.cell? ⟨B, 0, none⟩ = some (.int .i64 0) := cell_at hB 0
  have fB := free_at hB 0
  have hRn := hR.off (i := 0) (show R ≠ B by omega) (.int .i64 (n0 : Int))
  have hAn := set_off (i := 0) hA (show H ≠ B by omega) (.int .i64 (n0 : Int))
  have hBn := set_at hB 0 (.int .i64 (n0 : Int))
  have hOn := hOO.setCell (p := ⟨B, 0, none⟩) (by show H ≤ B; omega) (.int .i64 (n0 : Int))
  obtain ⟨V1, hV⟩ : ∃ X, X = w1.setCell ⟨B, 0, none⟩ (.int .i64 (n0 : Int)) := ⟨_, rfl⟩
  rw [← hV] at hRn hAn hBn hOn
  have HR1 := Lib.hid hRn
  have H1 := Lib.hid hAn
  have HB1 := Lib.hid (show V1.heap[B]? = some (.cells #[.int .i64 (n0 : Int), .int .u64 0, .int .i64 0, .int .i64 0, .int .u64 0, .int .u64 0, .string ⟨#[]⟩, .string ⟨#[]⟩] 30 (0, 0)) from hBn)
  have HO1 := Lib.hid hOn
  have HV := Lib.hid hV
  clear hR hA hB hOO hO hRn hAn hBn hOn hV HR0 H0 HB0 HO0
  go_upto_region 4 with fail
  rw [← HV.out]
  clear HV cB fB
  go_wp2_with fail
  refine (pnum_any R s r1 18446744073709551615 hs _ HR1.out).mono ?_
  rintro _ w2 ⟨rfl, hR, hO⟩
  have hA := (hO.block _ (Array.getElem?_eq_some_iff.1 H1.out).1 (by omega)).trans H1.out
  have hB := (hO.block _ (Array.getElem?_eq_some_iff.1 HB1.out).1 (by omega)).trans HB1.out
  have hOO := Only.below HO1.out hO (by omega) (by rw [HH.out]; exact HO1.out.size)
  have hn1 : (r1.num 18446744073709551615).1 ≤ 18446744073709551615 := R2.num_val _ _
  have hok2 := R2.num_okay r1 18446744073709551615 hok1
  generalize r1.num 18446744073709551615 = x at *
  obtain ⟨n1, r2⟩ := x
  dsimp only at *
  have cB : w2.cell? ⟨B, 1, none⟩ = some (.int .u64 0) := cell_at hB 1
  have fB := free_at hB 1
  have hRn := hR.off (i := 1) (show R ≠ B by omega) (.int .u64 (n1 : Int))
  have hAn := set_off (i := 1) hA (show H ≠ B by omega) (.int .u64 (n1 : Int))
  have hBn := set_at hB 1 (.int .u64 (n1 : Int))
  have hOn := hOO.setCell (p := ⟨B, 1, none⟩) (by show H ≤ B; omega) (.int .u64 (n1 : Int))
  obtain ⟨V2, hV⟩ : ∃ X, X = w2.setCell ⟨B, 1, none⟩ (.int .u64 (n1 : Int)) := ⟨_, rfl⟩
  rw [← hV] at hRn hAn hBn hOn
  have HR2 := Lib.hid hRn
  have H2 := Lib.hid hAn
  have HB2 := Lib.hid (show V2.heap[B]? = some (.cells #[.int .i64 (n0 : Int), .int .u64 (n1 : Int), .int .i64 0, .int .i64 0, .int .u64 0, .int .u64 0, .string ⟨#[]⟩, .string ⟨#[]⟩] 30 (0, 0)) from hBn)
  have HO2 := Lib.hid hOn
  have HV := Lib.hid hV
  clear hR hA hB hOO hO hRn hAn hBn hOn hV HR1 H1 HB1 HO1
  go_upto_region 5 with fail
  rw [← HV.out]
  clear HV cB fB
  go_wp2_with fail
  refine (ptake_any R s r2 hok2 hs _ HR2.out).mono ?_
  rintro _ w3 ⟨rfl, hR, hO⟩
  have hA := (hO.block _ (Array.getElem?_eq_some_iff.1 H2.out).1 (by omega)).trans H2.out
  have hB2 := (hO.block _ (Array.getElem?_eq_some_iff.1 HB2.out).1 (by omega)).trans HB2.out
  have hOO := Only.below HO2.out hO (by omega) (by rw [HH.out]; exact HO2.out.size)
  generalize r2.packet = x at *
  obtain ⟨⟨c, f, sq, t, d⟩, r3⟩ := x
  unfold P5.cells
  dsimp only at *
  obtain ⟨b0, b1, b2, b3, b4, b5, b6, b7⟩ : _ ∧ _ ∧ _ ∧ _ ∧ _ ∧ _ ∧ _ ∧ _ := ⟨cell_at hB2 0, cell_at hB2 1, cell_at hB2 2, cell_at hB2 3, cell_at hB2 4, cell_at hB2 5, cell_at hB2 6, cell_at hB2 7⟩
  have fb := fun i => free_at hB2 i
  have f2 := fb 2
  have f3 := fb 3
  have f4 := fb 4
  have f5 := fb 5
  have f6 := fb 6
  clear fb
  go_upto_region 6 with fail
  obtain ⟨V3, hV⟩ : ∃ X, X = ((((w3.setCell ⟨B, 2, none⟩ (.int .i64 c)).setCell ⟨B, 3, none⟩ (.int .i64 f)).setCell ⟨B, 4, none⟩ (.int .u64 sq)).setCell ⟨B, 5, none⟩ (.int .u64 t)).setCell ⟨B, 6, none⟩ (.string d) := ⟨_, rfl⟩
  have hB3 : V3.heap[B]? = some (.cells #[.int .i64 (n0 : Int), .int .u64 (n1 : Int), .int .i64 c, .int .i64 f, .int .u64 sq, .int .u64 t, .string d, .string ⟨#[]⟩] 30 (0, 0)) := by rw [hV]; exact set_at (set_at (set_at (set_at (set_at hB2 2 _) 3 _) 4 _) 5 _) 6 _
  have hA3 : V3.heap[H]? = some (.cells zeroE.cells 30 (0, 0)) := by rw [hV]; exact set_off (set_off (set_off (set_off (set_off hA (by omega) _) (by omega) _) (by omega) _) (by omega) _) (by omega) _
  have hR3 : PLies V3 R s r3 := by rw [hV]; exact ((((hR.off (by omega) _).off (by omega) _).off (by omega) _).off (by omega) _).off (by omega) _
  have hO3 : Below H W V3 := by
    rw [hV]
    have hle : ∀ i, H ≤ (⟨B, i, none⟩ : Addr).block := fun i => by show H ≤ B; omega
    exact ((((hOO.setCell (hle 2) _).setCell (hle 3) _).setCell (hle 4) _).setCell (hle 5) _).setCell (hle 6) _
  rw [← hV]
  clear hV hO hA hB2 hOO hR b0 b1 b2 b3 b4 b5 b6 b7 f2 f3 f4 f5 f6 H2 HB2 HR2 HO2
  have b0 : V3.cell? ⟨B, 0, none⟩ = some (.int .i64 (n0 : Int)) := cell_at hB3 0
  have HB3 := Lib.hid hB3
  have HA3 := Lib.hid hA3
  have HR3 := Lib.hid hR3
  have HO3 := Lib.hid hO3
  clear hB3 hA3 hR3 hO3
  by_cases h2 : n0 = 2
  · subst h2
    go_wp2_with fail
    refine (pText_any R s r3 64 (by decide) hs _ HR3.out).mono ?_
    rintro _ w4 ⟨rfl, hR, hO⟩
    have hA := (hO.block _ (Array.getElem?_eq_some_iff.1 HA3.out).1 (by omega)).trans HA3.out
    have hB := (hO.block _ (Array.getElem?_eq_some_iff.1 HB3.out).1 (by omega)).trans HB3.out
    have hOO := Only.below HO3.out hO (by omega) (by rw [HH.out]; exact HO3.out.size)
    have HP2 : Hid (ev = (⟨((2 : Nat) : Int), (n1 : Int), c, f, sq, t, d, (r3.text 64).1⟩, (r3.text 64).2)) := Lib.hid (by rw [HP.out]; rfl)
    generalize r3.text 64 = x at *
    obtain ⟨a, r4⟩ := x
    dsimp only at *
    have c7 : w4.cell? ⟨B, 7, none⟩ = some (.string ⟨#[]⟩) := cell_at hB 7
    have f7 := free_at hB 7
    clear b0 HP
    go_upto_region 8 with fail
    obtain ⟨V5, hV⟩ : ∃ X, X = w4.setCell ⟨B, 7, none⟩ (.string a) := ⟨_, rfl⟩
    have hB5 : V5.heap[B]? = some (.cells #[.int .i64 ((2 : Nat) : Int), .int .u64 (n1 : Int), .int .i64 c, .int .i64 f, .int .u64 sq, .int .u64 t, .string d, .string a] 30 (0, 0)) := by rw [hV]; exact set_at hB 7 _
    have hA5 : V5.heap[H]? = some (.cells zeroE.cells 30 (0, 0)) := by rw [hV]; exact set_off hA (by omega) _
    have hR5 : PLies V5 R s r4 := by rw [hV]; exact hR.off (by omega) _
    have hO5 : Below H W V5 := by rw [hV]; exact hOO.setCell (p := ⟨B, 7, none⟩) (show H ≤ B by omega) _
    rw [← hV]
    clear hV hA hB hR hO hOO c7 f7 HA3 HB3 HR3 HO3
    obtain ⟨em, hem⟩ : ∃ em : E8, em = ⟨((2 : Nat) : Int), (n1 : Int), c, f, sq, t, d, a⟩ := ⟨_, rfl⟩
    obtain ⟨C, hC⟩ : ∃ C : Array Value, C = #[.int .i64 ((2 : Nat) : Int), .int .u64 (n1 : Int), .int .i64 c, .int .i64 f, .int .u64 sq, .int .u64 t, .string d, .string a] := ⟨_, rfl⟩
    have hCm : C = em.cells := by rw [hem, hC]; rfl
    have HEv : Hid (ev = (em, r4)) := Lib.hid (by rw [HP2.out, hem])
    rw [← hC] at hB5
    clear hC hem HP2
    have hz : C.size = 8 := by rw [hCm]; rfl
    have ho : C.all (·.oneCell') = true := by rw [hCm]; exact cells8_one _
    have HC := Lib.hid hCm
    have hEr := reright_any em
    unfold E8.cells at hEr hCm
    rw [← hCm] at hEr
    have HEr := Lib.hid hEr
    have HB5 := Lib.hid hB5
    have HA5 := Lib.hid hA5
    have HR5 := Lib.hid hR5
    have HO5 := Lib.hid hO5
    clear hCm hB5 hA5 hR5 hO5 hEr
    obtain ⟨e, hee⟩ : ∃ e, e = r4.end' := ⟨_, rfl⟩
    have he0 := fun V (h : PLies V R s r4) => pend_any R s r4 hs V h
    rw [← hee] at he0
    have HE := Lib.hid he0
    have HEe : Hid (r4.end' = e) := Lib.hid hee.symm
    clear he0 hee
    go_wp2_with fail
    refine (HE.out _ HR5.out).mono ?_
    rintro _ w6 ⟨rfl, hR6, hO6⟩
    have HA6 := Lib.hid ((hO6.block _ (Array.getElem?_eq_some_iff.1 HA5.out).1 (by omega)).trans HA5.out)
    have HB6 := Lib.hid ((hO6.block _ (Array.getElem?_eq_some_iff.1 HB5.out).1 (by omega)).trans HB5.out)
    have HO6 := Lib.hid (Only.below HO5.out hO6 (by omega) (by rw [HH.out]; exact HO5.out.size))
    have HR6 := Lib.hid hR6
    clear hR6 hO6 HA5 HB5 HO5 HR5
    by_cases he : e = 0
    · subst he
      go_upto_region 10 with fail
      refine wp_region_lit ?_
      refine wpList_load_row rfl 30 _ rfl B rfl 30 C (0, 0) _ HB6.out Try.underlying30 rfl (i8 _ hz) ?_
      refine wpList_step (fun K hK => ?_)
      go_simp
      refine (HEr.out _).mono ?_
      rintro _ w7 ⟨rfl, b7⟩
      have HA7 := Lib.hid ((b7.block _ (Array.getElem?_eq_some_iff.1 HA6.out).1).trans HA6.out)
      have HC7 := Lib.hid ((b7.block _ (Array.getElem?_eq_some_iff.1 HB6.out).1).trans HB6.out)
      have HB7 := Lib.hid (HO6.out.trans (b7.mono (by rw [HH.out]; exact HO6.out.size)))
      clear b7 HA6 HB6 HO6
      refine hK _ _ ?_
      clear hK K
      cases hmr : eright em with
      | true =>
        have HG2 : Hid (G = (em, 0)) := Lib.hid (by rw [HG.out, HEv.out]; dsimp only; rw [HEe.out, if_neg (by simp), if_pos hmr])
        clear HG hmr
        go_upto_region 12 with fail
        refine wp_region_lit ?_
        refine wpList_load_row rfl 30 _ rfl B rfl 30 C (0, 0) _ HC7.out Try.underlying30 rfl (i8 _ hz) ?_
        refine wpList_store_rowTo rfl 30 _ _ rfl rfl H C rfl rfl 30 _ HA7.out (i8 _ hz) (by rw [hz]; rfl) ho ?_
        have HR' := setRow_heap w7 H _ C 30 (0, 0) HA7.out
        have hB9 : Below H W (w7.setRow H C) := ⟨HB7.out.os, HB7.out.tape, HB7.out.output, by simpa using HB7.out.size, fun i hi => (setRow_other _ _ _ _ (by omega)).trans (HB7.out.block i hi)⟩
        obtain ⟨W9, hW9⟩ : ∃ W9, W9 = w7.setRow H C := ⟨_, rfl⟩
        rw [← hW9] at HR' hB9 ⊢
        clear hW9 HA7 HB7 HC7
        go_wp2_with fail
        rw [HH.out] at HR' hB9
        exact bodyPost_ret (res_pevget _ _ W.heap.size C 0 hz (by rw [← HH.out]; rfl) rfl HR') rfl ⟨by rw [HG2.out, HC.out], hB9⟩
      | false =>
        have HG2 : Hid (G = (zeroE, 3)) := Lib.hid (by rw [HG.out, HEv.out]; dsimp only; rw [HEe.out, if_neg (by simp), hmr, if_neg (by simp)])
        clear HG hmr
        go_upto_region 11 with fail
        refine wp_region_lit ?_
        refine wpList_step (fun K hK => ?_)
        go_simp
        refine hK _ _ ?_
        clear hK K
        refine wpList_store_rowTo rfl 30 _ _ rfl rfl H zeroE.cells rfl rfl 30 _ HA7.out (i8 _ rfl) rfl (cells8_one _) ?_
        have HR' := setRow_heap w7 H _ zeroE.cells 30 (0, 0) HA7.out
        have hB9 : Below H W (w7.setRow H zeroE.cells) := ⟨HB7.out.os, HB7.out.tape, HB7.out.output, by simpa using HB7.out.size, fun i hi => (setRow_other _ _ _ _ (by omega)).trans (HB7.out.block i hi)⟩
        obtain ⟨W9, hW9⟩ : ∃ W9, W9 = w7.setRow H zeroE.cells := ⟨_, rfl⟩
        rw [← hW9] at HR' hB9 ⊢
        clear hW9 HA7 HB7 HC7
        go_wp2_with fail
        rw [HH.out] at HR' hB9
        exact bodyPost_ret (res_pevget _ _ W.heap.size zeroE.cells 3 rfl (by rw [← HH.out]; rfl) rfl HR') rfl ⟨by rw [HG2.out], hB9⟩
    · have he2 : (e == 0) = false := by simpa using he
      have HG2 : Hid (G = (zeroE, e)) := Lib.hid (by rw [HG.out, HEv.out]; dsimp only; rw [HEe.out, if_pos he])
      clear HG HEr
      go_upto_region 9 with fail
      refine wp_region_lit ?_
      refine wpList_step (fun K hK => ?_)
      go_simp
      refine hK _ _ ?_
      clear hK K
      refine wpList_step (fun K hK => ?_)
      go_simp
      refine hK _ _ ?_
      clear hK K
      refine wpList_step (fun K hK => ?_)
      go_simp
      refine (HE.out _ HR6.out).mono ?_
      rintro _ w7 ⟨rfl, hR7, hO7⟩
      have HA7 := Lib.hid ((hO7.block _ (Array.getElem?_eq_some_iff.1 HA6.out).1 (by omega)).trans HA6.out)
      have HB7 := Lib.hid (Only.below HO6.out hO7 (by omega) (by rw [HH.out]; exact HO6.out.size))
      clear hR7 hO7
      refine hK _ _ ?_
      clear hK K
      refine wpList_store_rowTo rfl 30 _ _ rfl rfl H zeroE.cells rfl rfl 30 _ HA7.out (i8 _ rfl) rfl (cells8_one _) ?_
      have HR' := setRow_heap w7 H _ zeroE.cells 30 (0, 0) HA7.out
      have hB9 : Below H W (w7.setRow H zeroE.cells) := ⟨HB7.out.os, HB7.out.tape, HB7.out.output, by simpa using HB7.out.size, fun i hi => (setRow_other _ _ _ _ (by omega)).trans (HB7.out.block i hi)⟩
      obtain ⟨W9, hW9⟩ : ∃ W9, W9 = w7.setRow H zeroE.cells := ⟨_, rfl⟩
      rw [← hW9] at HR' hB9 ⊢
      clear hW9 HA6 HO6 HR6 HA7 HB7
      go_wp2_with fail
      rw [HH.out] at HR' hB9
      exact bodyPost_ret (res_pevget _ _ W.heap.size zeroE.cells e rfl (by rw [← HH.out]; rfl) rfl HR') rfl ⟨by rw [HG2.out], hB9⟩
  · by_cases h3 : n0 = 3
    · subst h3
      go_wp2_with fail
      refine (pText_any R s r3 64 (by decide) hs _ HR3.out).mono ?_
      rintro _ w4 ⟨rfl, hR, hO⟩
      have hA := (hO.block _ (Array.getElem?_eq_some_iff.1 HA3.out).1 (by omega)).trans HA3.out
      have hB := (hO.block _ (Array.getElem?_eq_some_iff.1 HB3.out).1 (by omega)).trans HB3.out
      have hOO := Only.below HO3.out hO (by omega) (by rw [HH.out]; exact HO3.out.size)
      have HP2 : Hid (ev = (⟨((3 : Nat) : Int), (n1 : Int), c, f, sq, t, d, (r3.text 64).1⟩, (r3.text 64).2)) := Lib.hid (by rw [HP.out]; rfl)
      generalize r3.text 64 = x at *
      obtain ⟨a, r4⟩ := x
      dsimp only at *
      have c7 : w4.cell? ⟨B, 7, none⟩ = some (.string ⟨#[]⟩) := cell_at hB 7
      have f7 := free_at hB 7
      clear b0 HP
      go_upto_region 8 with fail
      obtain ⟨V5, hV⟩ : ∃ X, X = w4.setCell ⟨B, 7, none⟩ (.string a) := ⟨_, rfl⟩
      have hB5 : V5.heap[B]? = some (.cells #[.int .i64 ((3 : Nat) : Int), .int .u64 (n1 : Int), .int .i64 c, .int .i64 f, .int .u64 sq, .int .u64 t, .string d, .string a] 30 (0, 0)) := by rw [hV]; exact set_at hB 7 _
      have hA5 : V5.heap[H]? = some (.cells zeroE.cells 30 (0, 0)) := by rw [hV]; exact set_off hA (by omega) _
      have hR5 : PLies V5 R s r4 := by rw [hV]; exact hR.off (by omega) _
      have hO5 : Below H W V5 := by rw [hV]; exact hOO.setCell (p := ⟨B, 7, none⟩) (show H ≤ B by omega) _
      rw [← hV]
      clear hV hA hB hR hO hOO c7 f7 HA3 HB3 HR3 HO3
      obtain ⟨em, hem⟩ : ∃ em : E8, em = ⟨((3 : Nat) : Int), (n1 : Int), c, f, sq, t, d, a⟩ := ⟨_, rfl⟩
      obtain ⟨C, hC⟩ : ∃ C : Array Value, C = #[.int .i64 ((3 : Nat) : Int), .int .u64 (n1 : Int), .int .i64 c, .int .i64 f, .int .u64 sq, .int .u64 t, .string d, .string a] := ⟨_, rfl⟩
      have hCm : C = em.cells := by rw [hem, hC]; rfl
      have HEv : Hid (ev = (em, r4)) := Lib.hid (by rw [HP2.out, hem])
      rw [← hC] at hB5
      clear hC hem HP2
      have hz : C.size = 8 := by rw [hCm]; rfl
      have ho : C.all (·.oneCell') = true := by rw [hCm]; exact cells8_one _
      have HC := Lib.hid hCm
      have hEr := reright_any em
      unfold E8.cells at hEr hCm
      rw [← hCm] at hEr
      have HEr := Lib.hid hEr
      have HB5 := Lib.hid hB5
      have HA5 := Lib.hid hA5
      have HR5 := Lib.hid hR5
      have HO5 := Lib.hid hO5
      clear hCm hB5 hA5 hR5 hO5 hEr
      obtain ⟨e, hee⟩ : ∃ e, e = r4.end' := ⟨_, rfl⟩
      have he0 := fun V (h : PLies V R s r4) => pend_any R s r4 hs V h
      rw [← hee] at he0
      have HE := Lib.hid he0
      have HEe : Hid (r4.end' = e) := Lib.hid hee.symm
      clear he0 hee
      go_wp2_with fail
      refine (HE.out _ HR5.out).mono ?_
      rintro _ w6 ⟨rfl, hR6, hO6⟩
      have HA6 := Lib.hid ((hO6.block _ (Array.getElem?_eq_some_iff.1 HA5.out).1 (by omega)).trans HA5.out)
      have HB6 := Lib.hid ((hO6.block _ (Array.getElem?_eq_some_iff.1 HB5.out).1 (by omega)).trans HB5.out)
      have HO6 := Lib.hid (Only.below HO5.out hO6 (by omega) (by rw [HH.out]; exact HO5.out.size))
      have HR6 := Lib.hid hR6
      clear hR6 hO6 HA5 HB5 HO5 HR5
      by_cases he : e = 0
      · subst he
        go_upto_region 10 with fail
        refine wp_region_lit ?_
        refine wpList_load_row rfl 30 _ rfl B rfl 30 C (0, 0) _ HB6.out Try.underlying30 rfl (i8 _ hz) ?_
        refine wpList_step (fun K hK => ?_)
        go_simp
        refine (HEr.out _).mono ?_
        rintro _ w7 ⟨rfl, b7⟩
        have HA7 := Lib.hid ((b7.block _ (Array.getElem?_eq_some_iff.1 HA6.out).1).trans HA6.out)
        have HC7 := Lib.hid ((b7.block _ (Array.getElem?_eq_some_iff.1 HB6.out).1).trans HB6.out)
        have HB7 := Lib.hid (HO6.out.trans (b7.mono (by rw [HH.out]; exact HO6.out.size)))
        clear b7 HA6 HB6 HO6
        refine hK _ _ ?_
        clear hK K
        cases hmr : eright em with
        | true =>
          have HG2 : Hid (G = (em, 0)) := Lib.hid (by rw [HG.out, HEv.out]; dsimp only; rw [HEe.out, if_neg (by simp), if_pos hmr])
          clear HG hmr
          go_upto_region 12 with fail
          refine wp_region_lit ?_
          refine wpList_load_row rfl 30 _ rfl B rfl 30 C (0, 0) _ HC7.out Try.underlying30 rfl (i8 _ hz) ?_
          refine wpList_store_rowTo rfl 30 _ _ rfl rfl H C rfl rfl 30 _ HA7.out (i8 _ hz) (by rw [hz]; rfl) ho ?_
          have HR' := setRow_heap w7 H _ C 30 (0, 0) HA7.out
          have hB9 : Below H W (w7.setRow H C) := ⟨HB7.out.os, HB7.out.tape, HB7.out.output, by simpa using HB7.out.size, fun i hi => (setRow_other _ _ _ _ (by omega)).trans (HB7.out.block i hi)⟩
          obtain ⟨W9, hW9⟩ : ∃ W9, W9 = w7.setRow H C := ⟨_, rfl⟩
          rw [← hW9] at HR' hB9 ⊢
          clear hW9 HA7 HB7 HC7
          go_wp2_with fail
          rw [HH.out] at HR' hB9
          exact bodyPost_ret (res_pevget _ _ W.heap.size C 0 hz (by rw [← HH.out]; rfl) rfl HR') rfl ⟨by rw [HG2.out, HC.out], hB9⟩
        | false =>
          have HG2 : Hid (G = (zeroE, 3)) := Lib.hid (by rw [HG.out, HEv.out]; dsimp only; rw [HEe.out, if_neg (by simp), hmr, if_neg (by simp)])
          clear HG hmr
          go_upto_region 11 with fail
          refine wp_region_lit ?_
          refine wpList_step (fun K hK => ?_)
          go_simp
          refine hK _ _ ?_
          clear hK K
          refine wpList_store_rowTo rfl 30 _ _ rfl rfl H zeroE.cells rfl rfl 30 _ HA7.out (i8 _ rfl) rfl (cells8_one _) ?_
          have HR' := setRow_heap w7 H _ zeroE.cells 30 (0, 0) HA7.out
          have hB9 : Below H W (w7.setRow H zeroE.cells) := ⟨HB7.out.os, HB7.out.tape, HB7.out.output, by simpa using HB7.out.size, fun i hi => (setRow_other _ _ _ _ (by omega)).trans (HB7.out.block i hi)⟩
          obtain ⟨W9, hW9⟩ : ∃ W9, W9 = w7.setRow H zeroE.cells := ⟨_, rfl⟩
          rw [← hW9] at HR' hB9 ⊢
          clear hW9 HA7 HB7 HC7
          go_wp2_with fail
          rw [HH.out] at HR' hB9
          exact bodyPost_ret (res_pevget _ _ W.heap.size zeroE.cells 3 rfl (by rw [← HH.out]; rfl) rfl HR') rfl ⟨by rw [HG2.out], hB9⟩
      · have he2 : (e == 0) = false := by simpa using he
        have HG2 : Hid (G = (zeroE, e)) := Lib.hid (by rw [HG.out, HEv.out]; dsimp only; rw [HEe.out, if_pos he])
        clear HG HEr
        go_upto_region 9 with fail
        refine wp_region_lit ?_
        refine wpList_step (fun K hK => ?_)
        go_simp
        refine hK _ _ ?_
        clear hK K
        refine wpList_step (fun K hK => ?_)
        go_simp
        refine hK _ _ ?_
        clear hK K
        refine wpList_step (fun K hK => ?_)
        go_simp
        refine (HE.out _ HR6.out).mono ?_
        rintro _ w7 ⟨rfl, hR7, hO7⟩
        have HA7 := Lib.hid ((hO7.block _ (Array.getElem?_eq_some_iff.1 HA6.out).1 (by omega)).trans HA6.out)
        have HB7 := Lib.hid (Only.below HO6.out hO7 (by omega) (by rw [HH.out]; exact HO6.out.size))
        clear hR7 hO7
        refine hK _ _ ?_
        clear hK K
        refine wpList_store_rowTo rfl 30 _ _ rfl rfl H zeroE.cells rfl rfl 30 _ HA7.out (i8 _ rfl) rfl (cells8_one _) ?_
        have HR' := setRow_heap w7 H _ zeroE.cells 30 (0, 0) HA7.out
        have hB9 : Below H W (w7.setRow H zeroE.cells) := ⟨HB7.out.os, HB7.out.tape, HB7.out.output, by simpa using HB7.out.size, fun i hi => (setRow_other _ _ _ _ (by omega)).trans (HB7.out.block i hi)⟩
        obtain ⟨W9, hW9⟩ : ∃ W9, W9 = w7.setRow H zeroE.cells := ⟨_, rfl⟩
        rw [← hW9] at HR' hB9 ⊢
        clear hW9 HA6 HO6 HR6 HA7 HB7
        go_wp2_with fail
        rw [HH.out] at HR' hB9
        exact bodyPost_ret (res_pevget _ _ W.heap.size zeroE.cells e rfl (by rw [← HH.out]; rfl) rfl HR') rfl ⟨by rw [HG2.out], hB9⟩
    · have i2 : ((n0 : Int) == 2) = false := by simp; omega
      have i3 : ((n0 : Int) == 3) = false := by simp; omega
      have j2 : decide ((n0 : Int) = 2) = false := by simp; omega
      have j3 : decide ((n0 : Int) = 3) = false := by simp; omega
      have HP2 : Hid (ev = (⟨(n0 : Int), (n1 : Int), c, f, sq, t, d, ⟨#[]⟩⟩, r3)) := Lib.hid (by rw [HP.out, if_neg (by omega)])
      go_wp2_with fail
      clear b0 h2 h3 HP i2 i3 j2 j3
      have hB5 := HB3.out
      obtain ⟨a, ha⟩ : ∃ a : ByteArray, a = ⟨#[]⟩ := ⟨_, rfl⟩
      rw [← ha] at hB5 HP2
      have hA5 := HA3.out
      have hR5 := HR3.out
      have hO5 := HO3.out
      obtain ⟨r4, hr4⟩ : ∃ r4, r4 = r3 := ⟨_, rfl⟩
      rw [← hr4] at HP2 hR5
      obtain ⟨V5, hV5⟩ : ∃ V5, V5 = V3 := ⟨_, rfl⟩
      rw [← hV5] at hA5 hB5 hR5 hO5 ⊢
      clear ha hr4 hV5 HB3 HA3 HR3 HO3
      obtain ⟨em, hem⟩ : ∃ em : E8, em = ⟨(n0 : Int), (n1 : Int), c, f, sq, t, d, a⟩ := ⟨_, rfl⟩
      obtain ⟨C, hC⟩ : ∃ C : Array Value, C = #[.int .i64 (n0 : Int), .int .u64 (n1 : Int), .int .i64 c, .int .i64 f, .int .u64 sq, .int .u64 t, .string d, .string a] := ⟨_, rfl⟩
      have hCm : C = em.cells := by rw [hem, hC]; rfl
      have HEv : Hid (ev = (em, r4)) := Lib.hid (by rw [HP2.out, hem])
      rw [← hC] at hB5
      clear hC hem HP2
      have hz : C.size = 8 := by rw [hCm]; rfl
      have ho : C.all (·.oneCell') = true := by rw [hCm]; exact cells8_one _
      have HC := Lib.hid hCm
      have hEr := reright_any em
      unfold E8.cells at hEr hCm
      rw [← hCm] at hEr
      have HEr := Lib.hid hEr
      have HB5 := Lib.hid hB5
      have HA5 := Lib.hid hA5
      have HR5 := Lib.hid hR5
      have HO5 := Lib.hid hO5
      clear hCm hB5 hA5 hR5 hO5 hEr
      obtain ⟨e, hee⟩ : ∃ e, e = r4.end' := ⟨_, rfl⟩
      have he0 := fun V (h : PLies V R s r4) => pend_any R s r4 hs V h
      rw [← hee] at he0
      have HE := Lib.hid he0
      have HEe : Hid (r4.end' = e) := Lib.hid hee.symm
      clear he0 hee
      go_wp2_with fail
      refine (HE.out _ HR5.out).mono ?_
      rintro _ w6 ⟨rfl, hR6, hO6⟩
      have HA6 := Lib.hid ((hO6.block _ (Array.getElem?_eq_some_iff.1 HA5.out).1 (by omega)).trans HA5.out)
      have HB6 := Lib.hid ((hO6.block _ (Array.getElem?_eq_some_iff.1 HB5.out).1 (by omega)).trans HB5.out)
      have HO6 := Lib.hid (Only.below HO5.out hO6 (by omega) (by rw [HH.out]; exact HO5.out.size))
      have HR6 := Lib.hid hR6
      clear hR6 hO6 HA5 HB5 HO5 HR5
      by_cases he : e = 0
      · subst he
        go_upto_region 10 with fail
        refine wp_region_lit ?_
        refine wpList_load_row rfl 30 _ rfl B rfl 30 C (0, 0) _ HB6.out Try.underlying30 rfl (i8 _ hz) ?_
        refine wpList_step (fun K hK => ?_)
        go_simp
        refine (HEr.out _).mono ?_
        rintro _ w7 ⟨rfl, b7⟩
        have HA7 := Lib.hid ((b7.block _ (Array.getElem?_eq_some_iff.1 HA6.out).1).trans HA6.out)
        have HC7 := Lib.hid ((b7.block _ (Array.getElem?_eq_some_iff.1 HB6.out).1).trans HB6.out)
        have HB7 := Lib.hid (HO6.out.trans (b7.mono (by rw [HH.out]; exact HO6.out.size)))
        clear b7 HA6 HB6 HO6
        refine hK _ _ ?_
        clear hK K
        cases hmr : eright em with
        | true =>
          have HG2 : Hid (G = (em, 0)) := Lib.hid (by rw [HG.out, HEv.out]; dsimp only; rw [HEe.out, if_neg (by simp), if_pos hmr])
          clear HG hmr
          go_upto_region 12 with fail
          refine wp_region_lit ?_
          refine wpList_load_row rfl 30 _ rfl B rfl 30 C (0, 0) _ HC7.out Try.underlying30 rfl (i8 _ hz) ?_
          refine wpList_store_rowTo rfl 30 _ _ rfl rfl H C rfl rfl 30 _ HA7.out (i8 _ hz) (by rw [hz]; rfl) ho ?_
          have HR' := setRow_heap w7 H _ C 30 (0, 0) HA7.out
          have hB9 : Below H W (w7.setRow H C) := ⟨HB7.out.os, HB7.out.tape, HB7.out.output, by simpa using HB7.out.size, fun i hi => (setRow_other _ _ _ _ (by omega)).trans (HB7.out.block i hi)⟩
          obtain ⟨W9, hW9⟩ : ∃ W9, W9 = w7.setRow H C := ⟨_, rfl⟩
          rw [← hW9] at HR' hB9 ⊢
          clear hW9 HA7 HB7 HC7
          go_wp2_with fail
          rw [HH.out] at HR' hB9
          exact bodyPost_ret (res_pevget _ _ W.heap.size C 0 hz (by rw [← HH.out]; rfl) rfl HR') rfl ⟨by rw [HG2.out, HC.out], hB9⟩
        | false =>
          have HG2 : Hid (G = (zeroE, 3)) := Lib.hid (by rw [HG.out, HEv.out]; dsimp only; rw [HEe.out, if_neg (by simp), hmr, if_neg (by simp)])
          clear HG hmr
          go_upto_region 11 with fail
          refine wp_region_lit ?_
          refine wpList_step (fun K hK => ?_)
          go_simp
          refine hK _ _ ?_
          clear hK K
          refine wpList_store_rowTo rfl 30 _ _ rfl rfl H zeroE.cells rfl rfl 30 _ HA7.out (i8 _ rfl) rfl (cells8_one _) ?_
          have HR' := setRow_heap w7 H _ zeroE.cells 30 (0, 0) HA7.out
          have hB9 : Below H W (w7.setRow H zeroE.cells) := ⟨HB7.out.os, HB7.out.tape, HB7.out.output, by simpa using HB7.out.size, fun i hi => (setRow_other _ _ _ _ (by omega)).trans (HB7.out.block i hi)⟩
          obtain ⟨W9, hW9⟩ : ∃ W9, W9 = w7.setRow H zeroE.cells := ⟨_, rfl⟩
          rw [← hW9] at HR' hB9 ⊢
          clear hW9 HA7 HB7 HC7
          go_wp2_with fail
          rw [HH.out] at HR' hB9
          exact bodyPost_ret (res_pevget _ _ W.heap.size zeroE.cells 3 rfl (by rw [← HH.out]; rfl) rfl HR') rfl ⟨by rw [HG2.out], hB9⟩
      · have he2 : (e == 0) = false := by simpa using he
        have HG2 : Hid (G = (zeroE, e)) := Lib.hid (by rw [HG.out, HEv.out]; dsimp only; rw [HEe.out, if_pos he])
        clear HG HEr
        go_upto_region 9 with fail
        refine wp_region_lit ?_
        refine wpList_step (fun K hK => ?_)
        go_simp
        refine hK _ _ ?_
        clear hK K
        refine wpList_step (fun K hK => ?_)
        go_simp
        refine hK _ _ ?_
        clear hK K
        refine wpList_step (fun K hK => ?_)
        go_simp
        refine (HE.out _ HR6.out).mono ?_
        rintro _ w7 ⟨rfl, hR7, hO7⟩
        have HA7 := Lib.hid ((hO7.block _ (Array.getElem?_eq_some_iff.1 HA6.out).1 (by omega)).trans HA6.out)
        have HB7 := Lib.hid (Only.below HO6.out hO7 (by omega) (by rw [HH.out]; exact HO6.out.size))
        clear hR7 hO7
        refine hK _ _ ?_
        clear hK K
        refine wpList_store_rowTo rfl 30 _ _ rfl rfl H zeroE.cells rfl rfl 30 _ HA7.out (i8 _ rfl) rfl (cells8_one _) ?_
        have HR' := setRow_heap w7 H _ zeroE.cells 30 (0, 0) HA7.out
        have hB9 : Below H W (w7.setRow H zeroE.cells) := ⟨HB7.out.os, HB7.out.tape, HB7.out.output, by simpa using HB7.out.size, fun i hi => (setRow_other _ _ _ _ (by omega)).trans (HB7.out.block i hi)⟩
        obtain ⟨W9, hW9⟩ : ∃ W9, W9 = w7.setRow H zeroE.cells := ⟨_, rfl⟩
        rw [← hW9] at HR' hB9 ⊢
        clear hW9 HA6 HO6 HR6 HA7 HB7
        go_wp2_with fail
        rw [HH.out] at HR' hB9
        exact bodyPost_ret (res_pevget _ _ W.heap.size zeroE.cells e rfl (by rw [← HH.out]; rfl) rfl HR') rfl ⟨by rw [HG2.out], hB9⟩
end Go.Proofs.Ythamemaomedldaa.Rd
