/- The page's Take of packets. -/
import Derived.Test.YthamemaomedldaaPgText
import Derived.Test.YthamemaomedldaaPacketTake
namespace Go.Proofs.Ythamemaomedldaa.Rd
open Go Go.RowKit Num Texts Packet

theorem PLies.heap {W W' : World} {R : Nat} {S : ByteArray} {r : R2} (h : PLies W R S r) (he : W'.heap[R]? = W.heap[R]?) : PLies W' R S r := by
  obtain ⟨a, h1, h2, h3⟩ := h
  exact ⟨a, h1, h2, he.trans h3⟩
theorem PLies.lt {W : World} {R : Nat} {S : ByteArray} {r : R2} (h : PLies W R S r) : R < W.heap.size := by
  obtain ⟨a, h1, h2, h3⟩ := h
  exact (Array.getElem?_eq_some_iff.1 h3).1
theorem PLies.off {W : World} {R n i : Nat} {S : ByteArray} {r : R2} (h : PLies W R S r) (hne : R ≠ n) (u : Value) : PLies (W.setCell ⟨n, i, none⟩ u) R S r :=
  h.heap (Below.heap_setCell _ _ _ _ (fun e => hne e))
theorem PLies.err {W : World} {R : Nat} {S : ByteArray} {r : R2} (h : PLies W R S r) : W.cell? ⟨R, 2, none⟩ = some (.int .i64 r.b) := by
  obtain ⟨a, h1, h2, h3⟩ := h
  exact cell_at h3 2
/-- an error leaves nothing -/
def R2.okay (r : R2) : Prop := r.b ≠ 0 → r.s = ⟨#[]⟩
theorem R2.after_okay (e : Int) (s : ByteArray) : (R2.after e s).okay := by
  unfold R2.after R2.okay
  split
  · intro h; exact absurd rfl h
  · intro _; rfl
theorem R2.num_okay (r : R2) (m : Nat) (h : r.okay) : (r.num m).2.okay := by
  unfold R2.num
  split
  · exact R2.after_okay _ _
  · exact h
theorem R2.text_okay (r : R2) (m : Nat) (h : r.okay) : (r.text m).2.okay := by
  unfold R2.text
  split
  · exact R2.after_okay _ _
  · exact h
theorem R2.failed_iff (r : R2) (h : r.okay) : r.failed = !(r.b == 0) := by
  obtain ⟨s, b⟩ := r
  by_cases hb : b = 0
  · subst hb
    rw [R2.failed_ok]; rfl
  · have hs : s = ⟨#[]⟩ := h hb
    subst hs
    unfold R2.failed R2.end'
    have e : ((⟨#[]⟩ : ByteArray)).size = 0 := rfl
    rw [e, if_neg (fun h => hb h.1)]
    have : (b == 0) = false := by simpa using hb
    rw [this]
    simp [hb]
theorem R2.packet_okay (r : R2) (h : r.okay) : r.packet.2.okay := R2.text_okay _ _ (R2.num_okay _ _ (R2.num_okay _ _ (R2.num_okay _ _ (R2.num_okay _ _ h))))

set_option maxRecDepth 20000 in
set_option maxHeartbeats 2000000 in
theorem ptake_any (R : Nat) (S : ByteArray) (r : R2) (hok : r.okay) (hs : S.size ≤ 1099511627776) (W : World) (hR : PLies W R S r) :
    Calls Try.prog 44 #[.pointer (some ⟨R, 0, none⟩)] W
      fun e w' => e = .returned (.agg r.packet.1.cells) ∧ PLies w' R S r.packet.2 ∧ Only R W w' := by
  have hlt := hR.lt
  obtain ⟨W0, hW0⟩ : ∃ X, X = (W.alloc (.cells #[.int .i64 0, .int .i64 0, .int .u64 0, .int .u64 0, .string ⟨#[]⟩] 28)).alloc (.cells #[.int .i64 0, .int .i64 0, .int .u64 0, .int .u64 0, .string ⟨#[]⟩] 28) := ⟨_, rfl⟩
  have hA : W0.heap[W.heap.size]? = some (.cells #[.int .i64 0, .int .i64 0, .int .u64 0, .int .u64 0, .string ⟨#[]⟩] 28 (0, 0)) := by
    rw [hW0, Below.heap_alloc _ _ _ (by simp)]; exact heap_alloc_new _ _
  have hB : W0.heap[W.heap.size + 1]? = some (.cells #[.int .i64 0, .int .i64 0, .int .u64 0, .int .u64 0, .string ⟨#[]⟩] 28 (0, 0)) := by
    have := heap_alloc_new (W.alloc (.cells #[.int .i64 0, .int .i64 0, .int .u64 0, .int .u64 0, .string ⟨#[]⟩] 28)) (.cells #[.int .i64 0, .int .i64 0, .int .u64 0, .int .u64 0, .string ⟨#[]⟩] 28)
    rw [hW0]; simpa using this
  have hO : Only R W W0 := by rw [hW0]; exact ((Only.refl R W).alloc _).alloc _
  have hR0 : PLies W0 R S r := hR.heap (by rw [hW0, Below.heap_alloc _ _ _ (by simp; omega), Below.heap_alloc _ _ _ hlt])
  have H0 := Lib.hid hA
  have HB0 := Lib.hid hB
  have HO0 := Lib.hid hO
  have HR0 := Lib.hid hR0
  have HOK := Lib.hid (R2.packet_okay r hok)
  clear hA hB hO hR0 hR hok
  have hpk : r.packet = (let a := r.num 3
    let b := a.2.num 1
    let c := b.2.num 18446744073709551615
    let d := c.2.num 18446744073709551615
    let e := d.2.text 64
    (if e.2.failed then zeroP else ⟨(a.1 : Int), (b.1 : Int), (c.1 : Int), (d.1 : Int), e.1⟩, e.2)) := rfl
  generalize r.packet = PK at hpk HOK ⊢
  have HP := Lib.hid hpk
  clear hpk
  go_enter Try.func44, Try.ntmps44
  go_upto_region 2 with fail
  rw [← hW0]
  clear hW0
  go_wp2_with fail
  refine (pnum_any R S r 3 hs _ HR0.out).mono ?_
  rintro _ w1 ⟨rfl, hR, hO⟩
  have hA := (hO.block _ (Array.getElem?_eq_some_iff.1 H0.out).1 (by omega)).trans H0.out
  have hB := (hO.block _ (Array.getElem?_eq_some_iff.1 HB0.out).1 (by omega)).trans HB0.out
  have hOO := HO0.out.trans hO
  have hn0 : (r.num 3).1 ≤ 3 := R2.num_val _ _
  generalize r.num 3 = x at *
  obtain ⟨n0, r1⟩ := x
  dsimp only at *
  have hi0 : (n0 : Int) ≤ 3 := by omega
  have cB : w1.cell? ⟨W.heap.size + 1, 0, none⟩ = some (.int .i64 0) := cell_at hB 0
  have fB := free_at hB 0
  have hRn := hR.off (i := 0) (show R ≠ W.heap.size + 1 by omega) (.int .i64 (n0 : Int))
  have hAn := set_off (i := 0) hA (show W.heap.size ≠ W.heap.size + 1 by omega) (.int .i64 (n0 : Int))
  have hBn := set_at hB 0 (.int .i64 (n0 : Int))
  have hOn := hOO.setNew (show W.heap.size ≤ W.heap.size + 1 by omega) 0 (.int .i64 (n0 : Int))
  obtain ⟨V1, hV⟩ : ∃ X, X = w1.setCell ⟨W.heap.size + 1, 0, none⟩ (.int .i64 (n0 : Int)) := ⟨_, rfl⟩
  rw [← hV] at hRn hAn hBn hOn
  have HR1 := Lib.hid hRn
  have H1 := Lib.hid hAn
  have HB1 := Lib.hid (show V1.heap[W.heap.size + 1]? = some (.cells #[.int .i64 (n0 : Int), .int .i64 0, .int .u64 0, .int .u64 0, .string ⟨#[]⟩] 28 (0, 0)) from hBn)
  have HO1 := Lib.hid hOn
  have HV := Lib.hid hV
  clear hR hA hB hOO hO hRn hAn hBn hOn hV HR0 H0 HB0 HO0
  go_upto_region 3 with fail
  rw [← HV.out]
  clear HV cB fB
  go_wp2_with fail
  refine (pnum_any R S r1 1 hs _ HR1.out).mono ?_
  rintro _ w2 ⟨rfl, hR, hO⟩
  have hA := (hO.block _ (Array.getElem?_eq_some_iff.1 H1.out).1 (by omega)).trans H1.out
  have hB := (hO.block _ (Array.getElem?_eq_some_iff.1 HB1.out).1 (by omega)).trans HB1.out
  have hOO := HO1.out.trans hO
  have hn1 : (r1.num 1).1 ≤ 1 := R2.num_val _ _
  generalize r1.num 1 = x at *
  obtain ⟨n1, r2⟩ := x
  dsimp only at *
  have hi1 : (n1 : Int) ≤ 1 := by omega
  have cB : w2.cell? ⟨W.heap.size + 1, 1, none⟩ = some (.int .i64 0) := cell_at hB 1
  have fB := free_at hB 1
  have hRn := hR.off (i := 1) (show R ≠ W.heap.size + 1 by omega) (.int .i64 (n1 : Int))
  have hAn := set_off (i := 1) hA (show W.heap.size ≠ W.heap.size + 1 by omega) (.int .i64 (n1 : Int))
  have hBn := set_at hB 1 (.int .i64 (n1 : Int))
  have hOn := hOO.setNew (show W.heap.size ≤ W.heap.size + 1 by omega) 1 (.int .i64 (n1 : Int))
  obtain ⟨V2, hV⟩ : ∃ X, X = w2.setCell ⟨W.heap.size + 1, 1, none⟩ (.int .i64 (n1 : Int)) := ⟨_, rfl⟩
  rw [← hV] at hRn hAn hBn hOn
  have HR2 := Lib.hid hRn
  have H2 := Lib.hid hAn
  have HB2 := Lib.hid (show V2.heap[W.heap.size + 1]? = some (.cells #[.int .i64 (n0 : Int), .int .i64 (n1 : Int), .int .u64 0, .int .u64 0, .string ⟨#[]⟩] 28 (0, 0)) from hBn)
  have HO2 := Lib.hid hOn
  have HV := Lib.hid hV
  clear hR hA hB hOO hO hRn hAn hBn hOn hV HR1 H1 HB1 HO1
  go_upto_region 4 with fail
  rw [← HV.out]
  clear HV cB fB
  go_wp2_with fail
  refine (pnum_any R S r2 18446744073709551615 hs _ HR2.out).mono ?_
  rintro _ w3 ⟨rfl, hR, hO⟩
  have hA := (hO.block _ (Array.getElem?_eq_some_iff.1 H2.out).1 (by omega)).trans H2.out
  have hB := (hO.block _ (Array.getElem?_eq_some_iff.1 HB2.out).1 (by omega)).trans HB2.out
  have hOO := HO2.out.trans hO
  have hn2 : (r2.num 18446744073709551615).1 ≤ 18446744073709551615 := R2.num_val _ _
  generalize r2.num 18446744073709551615 = x at *
  obtain ⟨n2, r3⟩ := x
  dsimp only at *
  have cB : w3.cell? ⟨W.heap.size + 1, 2, none⟩ = some (.int .u64 0) := cell_at hB 2
  have fB := free_at hB 2
  have hRn := hR.off (i := 2) (show R ≠ W.heap.size + 1 by omega) (.int .u64 (n2 : Int))
  have hAn := set_off (i := 2) hA (show W.heap.size ≠ W.heap.size + 1 by omega) (.int .u64 (n2 : Int))
  have hBn := set_at hB 2 (.int .u64 (n2 : Int))
  have hOn := hOO.setNew (show W.heap.size ≤ W.heap.size + 1 by omega) 2 (.int .u64 (n2 : Int))
  obtain ⟨V3, hV⟩ : ∃ X, X = w3.setCell ⟨W.heap.size + 1, 2, none⟩ (.int .u64 (n2 : Int)) := ⟨_, rfl⟩
  rw [← hV] at hRn hAn hBn hOn
  have HR3 := Lib.hid hRn
  have H3 := Lib.hid hAn
  have HB3 := Lib.hid (show V3.heap[W.heap.size + 1]? = some (.cells #[.int .i64 (n0 : Int), .int .i64 (n1 : Int), .int .u64 (n2 : Int), .int .u64 0, .string ⟨#[]⟩] 28 (0, 0)) from hBn)
  have HO3 := Lib.hid hOn
  have HV := Lib.hid hV
  clear hR hA hB hOO hO hRn hAn hBn hOn hV HR2 H2 HB2 HO2
  go_upto_region 5 with fail
  rw [← HV.out]
  clear HV cB fB
  go_wp2_with fail
  refine (pnum_any R S r3 18446744073709551615 hs _ HR3.out).mono ?_
  rintro _ w4 ⟨rfl, hR, hO⟩
  have hA := (hO.block _ (Array.getElem?_eq_some_iff.1 H3.out).1 (by omega)).trans H3.out
  have hB := (hO.block _ (Array.getElem?_eq_some_iff.1 HB3.out).1 (by omega)).trans HB3.out
  have hOO := HO3.out.trans hO
  have hn3 : (r3.num 18446744073709551615).1 ≤ 18446744073709551615 := R2.num_val _ _
  generalize r3.num 18446744073709551615 = x at *
  obtain ⟨n3, r4⟩ := x
  dsimp only at *
  have cB : w4.cell? ⟨W.heap.size + 1, 3, none⟩ = some (.int .u64 0) := cell_at hB 3
  have fB := free_at hB 3
  have hRn := hR.off (i := 3) (show R ≠ W.heap.size + 1 by omega) (.int .u64 (n3 : Int))
  have hAn := set_off (i := 3) hA (show W.heap.size ≠ W.heap.size + 1 by omega) (.int .u64 (n3 : Int))
  have hBn := set_at hB 3 (.int .u64 (n3 : Int))
  have hOn := hOO.setNew (show W.heap.size ≤ W.heap.size + 1 by omega) 3 (.int .u64 (n3 : Int))
  obtain ⟨V4, hV⟩ : ∃ X, X = w4.setCell ⟨W.heap.size + 1, 3, none⟩ (.int .u64 (n3 : Int)) := ⟨_, rfl⟩
  rw [← hV] at hRn hAn hBn hOn
  have HR4 := Lib.hid hRn
  have H4 := Lib.hid hAn
  have HB4 := Lib.hid (show V4.heap[W.heap.size + 1]? = some (.cells #[.int .i64 (n0 : Int), .int .i64 (n1 : Int), .int .u64 (n2 : Int), .int .u64 (n3 : Int), .string ⟨#[]⟩] 28 (0, 0)) from hBn)
  have HO4 := Lib.hid hOn
  have HV := Lib.hid hV
  clear hR hA hB hOO hO hRn hAn hBn hOn hV HR3 H3 HB3 HO3
  go_upto_region 6 with fail
  rw [← HV.out]
  clear HV cB fB
  go_wp2_with fail
  refine (pText_any R S r4 64 (by decide) hs _ HR4.out).mono ?_
  rintro _ w5 ⟨rfl, hR, hO⟩
  have hA := (hO.block _ (Array.getElem?_eq_some_iff.1 H4.out).1 (by omega)).trans H4.out
  have hB := (hO.block _ (Array.getElem?_eq_some_iff.1 HB4.out).1 (by omega)).trans HB4.out
  have hOO := HO4.out.trans hO
  generalize r4.text 64 = x at *
  obtain ⟨d4, r5⟩ := x
  dsimp only at *
  have cB : w5.cell? ⟨W.heap.size + 1, 4, none⟩ = some (.string ⟨#[]⟩) := cell_at hB 4
  have fB := free_at hB 4
  have hRn := hR.off (i := 4) (show R ≠ W.heap.size + 1 by omega) (.string d4)
  have hAn := set_off (i := 4) hA (show W.heap.size ≠ W.heap.size + 1 by omega) (.string d4)
  have hBn := set_at hB 4 (.string d4)
  have hOn := hOO.setNew (show W.heap.size ≤ W.heap.size + 1 by omega) 4 (.string d4)
  obtain ⟨V5, hV⟩ : ∃ X, X = w5.setCell ⟨W.heap.size + 1, 4, none⟩ (.string d4) := ⟨_, rfl⟩
  rw [← hV] at hRn hAn hBn hOn
  have HR5 := Lib.hid hRn
  have H5 := Lib.hid hAn
  have HB5 := Lib.hid (show V5.heap[W.heap.size + 1]? = some (.cells #[.int .i64 (n0 : Int), .int .i64 (n1 : Int), .int .u64 (n2 : Int), .int .u64 (n3 : Int), .string d4] 28 (0, 0)) from hBn)
  have HO5 := Lib.hid hOn
  have HV := Lib.hid hV
  clear hR hA hB hOO hO hRn hAn hBn hOn hV HR4 H4 HB4 HO4
  go_upto_region 7 with fail
  rw [← HV.out]
  clear HV cB fB
  have c2 : V5.cell? ⟨R, 2, none⟩ = some (.int .i64 r5.b) := HR5.out.err
  have hi5 : ∀ C : Array Value, C.size = 5 → (Try.prog.info? 28).map (·.size) = some C.size := fun C h => by rw [h]; kernel_rfl
  have hfb : r5.failed = !(r5.b == 0) := R2.failed_iff r5 (by have := HOK.out; rw [HP.out] at this; exact this)
  by_cases hb : r5.b = 0
  · have HP2 : Hid (PK = (⟨(n0 : Int), (n1 : Int), (n2 : Int), (n3 : Int), d4⟩, r5)) := Lib.hid (by rw [HP.out, hfb, hb]; rfl)
    rw [hb] at c2
    clear hfb HP HOK
    obtain ⟨C, hC⟩ : ∃ C : Array Value, C = #[.int .i64 (n0 : Int), .int .i64 (n1 : Int), .int .u64 (n2 : Int), .int .u64 (n3 : Int), .string d4] := ⟨_, rfl⟩
    have HBC := HB5.out
    rw [← hC] at HBC
    have hz : C.size = 5 := by rw [hC]; rfl
    have ho : C.all (·.oneCell') = true := by rw [hC]; exact cells5_one ⟨n0, n1, n2, n3, d4⟩
    have HC := Lib.hid hC
    clear hC HB5
    go_upto_region 9 with fail
    refine wp_region_lit ?_
    refine wpList_load_row rfl 28 _ rfl (W.heap.size + 1) rfl 28 C (0, 0) _ HBC Try.underlying28 rfl (hi5 _ hz) ?_
    refine wpList_store_rowTo rfl 28 _ _ rfl rfl W.heap.size C rfl rfl 28 _ H5.out (hi5 _ hz) (by rw [hz]; rfl) ho ?_
    refine wpList_nil ?_
    have HR' := setRow_heap V5 W.heap.size _ C 28 (0, 0) H5.out
    have HRr := HR5.out.heap (setRow_other V5 W.heap.size R C (by omega))
    have HOr := HO5.out.setRow (Nat.le_refl _) C
    obtain ⟨W9, hW9⟩ : ∃ W9, W9 = V5.setRow W.heap.size C := ⟨_, rfl⟩
    rw [← hW9] at HR' HRr HOr ⊢
    clear hW9 H5 HR5 HO5
    go_wp2_with fail
    exact bodyPost_ret (results_cell_row Try.results44 _ _ W.heap.size 28 C (0, 0) _ rfl HR' Try.underlying28 rfl (hi5 _ hz)) rfl ⟨by rw [HP2.out, HC.out]; rfl, by rw [HP2.out]; exact HRr, HOr⟩
  · have hbf : (r5.b == 0) = false := by simpa using hb
    have HP2 : Hid (PK = (zeroP, r5)) := Lib.hid (by rw [HP.out, hfb, hbf]; rfl)
    clear hfb HP HOK HB5
    go_upto_region 8 with fail
    refine wp_region_lit ?_
    refine wpList_step (fun K hK => ?_)
    go_simp
    refine hK _ _ ?_
    clear hK K
    refine wpList_store_rowTo rfl 28 _ _ rfl rfl W.heap.size zeroP.cells rfl rfl 28 _ H5.out (hi5 _ rfl) rfl (cells5_one _) ?_
    refine wpList_nil ?_
    have HR' := setRow_heap V5 W.heap.size _ zeroP.cells 28 (0, 0) H5.out
    have HRr := HR5.out.heap (setRow_other V5 W.heap.size R zeroP.cells (by omega))
    have HOr := HO5.out.setRow (Nat.le_refl _) zeroP.cells
    obtain ⟨W9, hW9⟩ : ∃ W9, W9 = V5.setRow W.heap.size zeroP.cells := ⟨_, rfl⟩
    rw [← hW9] at HR' HRr HOr ⊢
    clear hW9 H5 HR5 HO5
    go_wp2_with fail
    exact bodyPost_ret (results_cell_row Try.results44 _ _ W.heap.size 28 zeroP.cells (0, 0) _ rfl HR' Try.underlying28 rfl (hi5 _ rfl)) rfl ⟨by rw [HP2.out], by rw [HP2.out]; exact HRr, HOr⟩
end Go.Proofs.Ythamemaomedldaa.Rd
