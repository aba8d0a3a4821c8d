/- packet.Take, packet.Get: packets that are read. -/
import Derived.Test.YtoghchbkkcgkcaaDoorReadBack
import Derived.Test.YtoghchbkkcgkcaaDoorPacketMath
import Derived.Deep.Cut
import Derived.Great.BuildSlice
namespace Go.Proofs.YtoghchbkkcgkcaaDoor.Rd
open Go Go.RowKit Num Texts Packet

def zeroP : P5 := ⟨0, 0, 0, 0, ⟨#[]⟩⟩
/-- the packet that is read, and the reader behind it -/
def R2.packet (r : R2) : P5 × R2 :=
  let a := r.num 3
  let b := a.2.num 1
  let c := b.2.num 18446744073709551615
  let d := c.2.num 18446744073709551615
  let e := d.2.text 64
  (if e.2.failed then zeroP else ⟨(a.1 : Int), (b.1 : Int), (c.1 : Int), (d.1 : Int), e.1⟩, e.2)
theorem R2.packet_rest (r : R2) : r.packet.2.s.size ≤ r.s.size :=
  Nat.le_trans (R2.text_rest _ _) (Nat.le_trans (R2.num_rest _ _) (Nat.le_trans (R2.num_rest _ _) (Nat.le_trans (R2.num_rest _ _) (R2.num_rest _ _))))

theorem Only.setRow {R n : Nat} {a b : World} (h : Only R a b) (hn : a.heap.size ≤ n) (cs : Array Value) : Only R a (b.setRow n cs) :=
  ⟨h.os, h.tape, h.output, by simpa using h.size, fun k hk hne => (setRow_other b n k cs (by omega)).trans (h.block k hk hne)⟩
theorem cells5_one (p : P5) : p.cells.all (·.oneCell') = true := by
  rw [Array.all_eq_true']
  intro x hx
  simp only [P5.cells, List.mem_toArray, List.mem_cons, List.not_mem_nil, or_false] at hx
  rcases hx with rfl | rfl | rfl | rfl | rfl <;> rfl

set_option maxRecDepth 20000 in
set_option maxHeartbeats 2000000 in
theorem take_any (R : Nat) (r : R2) (hs : r.s.size ≤ 1099511627776) (W : World) (hR : Lies W R r) :
    Calls Tryd.prog 22 #[.pointer (some ⟨R, 0, none⟩)] W
      fun e w' => e = .returned (.agg r.packet.1.cells) ∧ Lies w' R r.packet.2 ∧ Only R W w' := by
  have hlt := (Array.getElem?_eq_some_iff.1 hR).1
  obtain ⟨W0, hW0⟩ : ∃ X, X = (W.alloc (.cells #[.int .i64 0, .int .i64 0, .int .u64 0, .int .u64 0, .string ⟨#[]⟩] 24)).alloc (.cells #[.int .i64 0, .int .i64 0, .int .u64 0, .int .u64 0, .string ⟨#[]⟩] 24) := ⟨_, rfl⟩
  have hA : W0.heap[W.heap.size]? = some (.cells #[.int .i64 0, .int .i64 0, .int .u64 0, .int .u64 0, .string ⟨#[]⟩] 24 (0, 0)) := by
    rw [hW0, Below.heap_alloc _ _ _ (by simp)]; exact heap_alloc_new _ _
  have hB : W0.heap[W.heap.size + 1]? = some (.cells #[.int .i64 0, .int .i64 0, .int .u64 0, .int .u64 0, .string ⟨#[]⟩] 24 (0, 0)) := by
    have := heap_alloc_new (W.alloc (.cells #[.int .i64 0, .int .i64 0, .int .u64 0, .int .u64 0, .string ⟨#[]⟩] 24)) (.cells #[.int .i64 0, .int .i64 0, .int .u64 0, .int .u64 0, .string ⟨#[]⟩] 24)
    rw [hW0]; simpa using this
  have hO : Only R W W0 := by rw [hW0]; exact ((Only.refl R W).alloc _).alloc _
  have hR0 : Lies W0 R r := by
    rw [hW0]; unfold Lies
    rw [Below.heap_alloc _ _ _ (by simp; omega), Below.heap_alloc _ _ _ hlt]; exact hR
  have H0 := Lib.hid hA
  have HB0 := Lib.hid hB
  have HO0 := Lib.hid hO
  have HR0 := Lib.hid hR0
  clear hA hB hO hR0 hR
  have hpk : r.packet = (let a := r.num 3
    let b := a.2.num 1
    let c := b.2.num 18446744073709551615
    let d := c.2.num 18446744073709551615
    let e := d.2.text 64
    (if e.2.failed then zeroP else ⟨(a.1 : Int), (b.1 : Int), (c.1 : Int), (d.1 : Int), e.1⟩, e.2)) := rfl
  have HP := Lib.hid hpk
  clear hpk
  have HS0 := Lib.hid hs
  clear hs
  go_enter Tryd.func22, Tryd.ntmps22
  go_upto_region 3 with fail
  rw [← hW0]
  clear hW0
  go_wp2_with fail
  refine (rnum_any R r 3 (by decide) HS0.out _ HR0.out).mono ?_
  rintro _ w1 ⟨rfl, hR, hO⟩
  have hA := (hO.block _ (Array.getElem?_eq_some_iff.1 H0.out).1 (by omega)).trans H0.out
  have hB := (hO.block _ (Array.getElem?_eq_some_iff.1 HB0.out).1 (by omega)).trans HB0.out
  have hOO := HO0.out.trans hO
  have hs1 : (r.num 3).2.s.size ≤ 1099511627776 := Nat.le_trans (R2.num_rest _ _) HS0.out
  have hn0 : (r.num 3).1 ≤ 3 := R2.num_val _ _
  generalize r.num 3 = x at *
  obtain ⟨n0, r1⟩ := x
  dsimp only at *
  have hi0 : (n0 : Int) ≤ 3 := by omega
  have cB : w1.cell? ⟨W.heap.size + 1, 0, none⟩ = some (.int .i64 0) := cell_at hB 0
  have fB := free_at hB 0
  have hRn := set_off (i := 0) hR (show R ≠ W.heap.size + 1 by omega) (.int .i64 (n0 : Int))
  have hAn := set_off (i := 0) hA (show W.heap.size ≠ W.heap.size + 1 by omega) (.int .i64 (n0 : Int))
  have hBn := set_at hB 0 (.int .i64 (n0 : Int))
  have hOn := hOO.setNew (show W.heap.size ≤ W.heap.size + 1 by omega) 0 (.int .i64 (n0 : Int))
  obtain ⟨V1, hV⟩ : ∃ X, X = w1.setCell ⟨W.heap.size + 1, 0, none⟩ (.int .i64 (n0 : Int)) := ⟨_, rfl⟩
  rw [← hV] at hRn hAn hBn hOn
  have HS1 := Lib.hid hs1
  have HR1 := Lib.hid hRn
  have H1 := Lib.hid hAn
  have HB1 := Lib.hid (show V1.heap[W.heap.size + 1]? = some (.cells #[.int .i64 (n0 : Int), .int .i64 0, .int .u64 0, .int .u64 0, .string ⟨#[]⟩] 24 (0, 0)) from hBn)
  have HO1 := Lib.hid hOn
  have HV := Lib.hid hV
  clear hR hA hB hOO hO hs1 hRn hAn hBn hOn hV HR0 H0 HB0 HO0 HS0
  go_upto_region 4 with fail
  rw [← HV.out]
  clear HV cB fB
  go_wp2_with fail
  refine (rnum_any R r1 1 (by decide) HS1.out _ HR1.out).mono ?_
  rintro _ w2 ⟨rfl, hR, hO⟩
  have hA := (hO.block _ (Array.getElem?_eq_some_iff.1 H1.out).1 (by omega)).trans H1.out
  have hB := (hO.block _ (Array.getElem?_eq_some_iff.1 HB1.out).1 (by omega)).trans HB1.out
  have hOO := HO1.out.trans hO
  have hs2 : (r1.num 1).2.s.size ≤ 1099511627776 := Nat.le_trans (R2.num_rest _ _) HS1.out
  have hn1 : (r1.num 1).1 ≤ 1 := R2.num_val _ _
  generalize r1.num 1 = x at *
  obtain ⟨n1, r2⟩ := x
  dsimp only at *
  have hi1 : (n1 : Int) ≤ 1 := by omega
  have cB : w2.cell? ⟨W.heap.size + 1, 1, none⟩ = some (.int .i64 0) := cell_at hB 1
  have fB := free_at hB 1
  have hRn := set_off (i := 1) hR (show R ≠ W.heap.size + 1 by omega) (.int .i64 (n1 : Int))
  have hAn := set_off (i := 1) hA (show W.heap.size ≠ W.heap.size + 1 by omega) (.int .i64 (n1 : Int))
  have hBn := set_at hB 1 (.int .i64 (n1 : Int))
  have hOn := hOO.setNew (show W.heap.size ≤ W.heap.size + 1 by omega) 1 (.int .i64 (n1 : Int))
  obtain ⟨V2, hV⟩ : ∃ X, X = w2.setCell ⟨W.heap.size + 1, 1, none⟩ (.int .i64 (n1 : Int)) := ⟨_, rfl⟩
  rw [← hV] at hRn hAn hBn hOn
  have HS2 := Lib.hid hs2
  have HR2 := Lib.hid hRn
  have H2 := Lib.hid hAn
  have HB2 := Lib.hid (show V2.heap[W.heap.size + 1]? = some (.cells #[.int .i64 (n0 : Int), .int .i64 (n1 : Int), .int .u64 0, .int .u64 0, .string ⟨#[]⟩] 24 (0, 0)) from hBn)
  have HO2 := Lib.hid hOn
  have HV := Lib.hid hV
  clear hR hA hB hOO hO hs2 hRn hAn hBn hOn hV HR1 H1 HB1 HO1 HS1
  go_upto_region 5 with fail
  rw [← HV.out]
  clear HV cB fB
  go_wp2_with fail
  refine (rnum_any R r2 18446744073709551615 (by decide) HS2.out _ HR2.out).mono ?_
  rintro _ w3 ⟨rfl, hR, hO⟩
  have hA := (hO.block _ (Array.getElem?_eq_some_iff.1 H2.out).1 (by omega)).trans H2.out
  have hB := (hO.block _ (Array.getElem?_eq_some_iff.1 HB2.out).1 (by omega)).trans HB2.out
  have hOO := HO2.out.trans hO
  have hs3 : (r2.num 18446744073709551615).2.s.size ≤ 1099511627776 := Nat.le_trans (R2.num_rest _ _) HS2.out
  have hn2 : (r2.num 18446744073709551615).1 ≤ 18446744073709551615 := R2.num_val _ _
  generalize r2.num 18446744073709551615 = x at *
  obtain ⟨n2, r3⟩ := x
  dsimp only at *
  have cB : w3.cell? ⟨W.heap.size + 1, 2, none⟩ = some (.int .u64 0) := cell_at hB 2
  have fB := free_at hB 2
  have hRn := set_off (i := 2) hR (show R ≠ W.heap.size + 1 by omega) (.int .u64 (n2 : Int))
  have hAn := set_off (i := 2) hA (show W.heap.size ≠ W.heap.size + 1 by omega) (.int .u64 (n2 : Int))
  have hBn := set_at hB 2 (.int .u64 (n2 : Int))
  have hOn := hOO.setNew (show W.heap.size ≤ W.heap.size + 1 by omega) 2 (.int .u64 (n2 : Int))
  obtain ⟨V3, hV⟩ : ∃ X, X = w3.setCell ⟨W.heap.size + 1, 2, none⟩ (.int .u64 (n2 : Int)) := ⟨_, rfl⟩
  rw [← hV] at hRn hAn hBn hOn
  have HS3 := Lib.hid hs3
  have HR3 := Lib.hid hRn
  have H3 := Lib.hid hAn
  have HB3 := Lib.hid (show V3.heap[W.heap.size + 1]? = some (.cells #[.int .i64 (n0 : Int), .int .i64 (n1 : Int), .int .u64 (n2 : Int), .int .u64 0, .string ⟨#[]⟩] 24 (0, 0)) from hBn)
  have HO3 := Lib.hid hOn
  have HV := Lib.hid hV
  clear hR hA hB hOO hO hs3 hRn hAn hBn hOn hV HR2 H2 HB2 HO2 HS2
  go_upto_region 6 with fail
  rw [← HV.out]
  clear HV cB fB
  go_wp2_with fail
  refine (rnum_any R r3 18446744073709551615 (by decide) HS3.out _ HR3.out).mono ?_
  rintro _ w4 ⟨rfl, hR, hO⟩
  have hA := (hO.block _ (Array.getElem?_eq_some_iff.1 H3.out).1 (by omega)).trans H3.out
  have hB := (hO.block _ (Array.getElem?_eq_some_iff.1 HB3.out).1 (by omega)).trans HB3.out
  have hOO := HO3.out.trans hO
  have hs4 : (r3.num 18446744073709551615).2.s.size ≤ 1099511627776 := Nat.le_trans (R2.num_rest _ _) HS3.out
  have hn3 : (r3.num 18446744073709551615).1 ≤ 18446744073709551615 := R2.num_val _ _
  generalize r3.num 18446744073709551615 = x at *
  obtain ⟨n3, r4⟩ := x
  dsimp only at *
  have cB : w4.cell? ⟨W.heap.size + 1, 3, none⟩ = some (.int .u64 0) := cell_at hB 3
  have fB := free_at hB 3
  have hRn := set_off (i := 3) hR (show R ≠ W.heap.size + 1 by omega) (.int .u64 (n3 : Int))
  have hAn := set_off (i := 3) hA (show W.heap.size ≠ W.heap.size + 1 by omega) (.int .u64 (n3 : Int))
  have hBn := set_at hB 3 (.int .u64 (n3 : Int))
  have hOn := hOO.setNew (show W.heap.size ≤ W.heap.size + 1 by omega) 3 (.int .u64 (n3 : Int))
  obtain ⟨V4, hV⟩ : ∃ X, X = w4.setCell ⟨W.heap.size + 1, 3, none⟩ (.int .u64 (n3 : Int)) := ⟨_, rfl⟩
  rw [← hV] at hRn hAn hBn hOn
  have HS4 := Lib.hid hs4
  have HR4 := Lib.hid hRn
  have H4 := Lib.hid hAn
  have HB4 := Lib.hid (show V4.heap[W.heap.size + 1]? = some (.cells #[.int .i64 (n0 : Int), .int .i64 (n1 : Int), .int .u64 (n2 : Int), .int .u64 (n3 : Int), .string ⟨#[]⟩] 24 (0, 0)) from hBn)
  have HO4 := Lib.hid hOn
  have HV := Lib.hid hV
  clear hR hA hB hOO hO hs4 hRn hAn hBn hOn hV HR3 H3 HB3 HO3 HS3
  go_upto_region 7 with fail
  rw [← HV.out]
  clear HV cB fB
  go_wp2_with fail
  refine (rtext_any R r4 64 (by decide) HS4.out _ HR4.out).mono ?_
  rintro _ w5 ⟨rfl, hR, hO⟩
  have hA := (hO.block _ (Array.getElem?_eq_some_iff.1 H4.out).1 (by omega)).trans H4.out
  have hB := (hO.block _ (Array.getElem?_eq_some_iff.1 HB4.out).1 (by omega)).trans HB4.out
  have hOO := HO4.out.trans hO
  have hs5 : (r4.text 64).2.s.size ≤ 1099511627776 := Nat.le_trans (R2.text_rest _ _) HS4.out
  generalize r4.text 64 = x at *
  obtain ⟨d4, r5⟩ := x
  dsimp only at *
  have cB : w5.cell? ⟨W.heap.size + 1, 4, none⟩ = some (.string ⟨#[]⟩) := cell_at hB 4
  have fB := free_at hB 4
  have hRn := set_off (i := 4) hR (show R ≠ W.heap.size + 1 by omega) (.string d4)
  have hAn := set_off (i := 4) hA (show W.heap.size ≠ W.heap.size + 1 by omega) (.string d4)
  have hBn := set_at hB 4 (.string d4)
  have hOn := hOO.setNew (show W.heap.size ≤ W.heap.size + 1 by omega) 4 (.string d4)
  obtain ⟨V5, hV⟩ : ∃ X, X = w5.setCell ⟨W.heap.size + 1, 4, none⟩ (.string d4) := ⟨_, rfl⟩
  rw [← hV] at hRn hAn hBn hOn
  have HS5 := Lib.hid hs5
  have HR5 := Lib.hid hRn
  have H5 := Lib.hid hAn
  have HB5 := Lib.hid (show V5.heap[W.heap.size + 1]? = some (.cells #[.int .i64 (n0 : Int), .int .i64 (n1 : Int), .int .u64 (n2 : Int), .int .u64 (n3 : Int), .string d4] 24 (0, 0)) from hBn)
  have HO5 := Lib.hid hOn
  have HV := Lib.hid hV
  clear hR hA hB hOO hO hs5 hRn hAn hBn hOn hV HR4 H4 HB4 HO4 HS4
  go_upto_region 8 with fail
  rw [← HV.out]
  clear HV cB fB
  go_wp2_with fail
  refine (failed_any R r5 _ HR5.out).mono ?_
  rintro _ w6 ⟨rfl, hw⟩
  obtain rfl := hw.symm
  clear hw
  have hi5 : ∀ C : Array Value, C.size = 5 → (Tryd.prog.info? 24).map (·.size) = some C.size := fun C h => by rw [h]; kernel_rfl
  cases hf : r5.failed with
  | true =>
    have HP2 : Hid (r.packet = (zeroP, r5)) := Lib.hid (by rw [HP.out, hf, if_pos rfl])
    clear hf HB5 HP
    go_upto_region 9 with fail
    refine wp_region_lit ?_
    refine wpList_step (fun K hK => ?_)
    go_simp
    refine hK _ _ ?_
    clear hK K
    refine wpList_store_rowTo rfl 24 _ _ rfl rfl W.heap.size zeroP.cells rfl rfl 24 _ H5.out (hi5 _ rfl) rfl (cells5_one _) ?_
    refine wpList_nil ?_
    have HR' := setRow_heap V5 W.heap.size _ zeroP.cells 24 (0, 0) H5.out
    have HRr := (setRow_other V5 W.heap.size R zeroP.cells (by omega)).trans HR5.out
    have HOr := HO5.out.setRow (Nat.le_refl _) zeroP.cells
    obtain ⟨W9, hW9⟩ : ∃ W9, W9 = V5.setRow W.heap.size zeroP.cells := ⟨_, rfl⟩
    rw [← hW9] at HR' HRr HOr ⊢
    clear hW9 H5 HR5 HO5
    go_wp2_with fail
    exact bodyPost_ret (results_cell_row Tryd.results22 _ _ W.heap.size 24 zeroP.cells (0, 0) _ rfl HR' Tryd.underlying24 rfl (hi5 _ rfl)) rfl ⟨by rw [HP2.out], by rw [HP2.out]; exact HRr, HOr⟩
  | false =>
    have HP2 : Hid (r.packet = (⟨(n0 : Int), (n1 : Int), (n2 : Int), (n3 : Int), d4⟩, r5)) := Lib.hid (by rw [HP.out, hf, if_neg (by simp)])
    clear hf HP
    obtain ⟨C, hC⟩ : ∃ C : Array Value, C = #[.int .i64 (n0 : Int), .int .i64 (n1 : Int), .int .u64 (n2 : Int), .int .u64 (n3 : Int), .string d4] := ⟨_, rfl⟩
    have HBC := HB5.out
    rw [← hC] at HBC
    have hz : C.size = 5 := by rw [hC]; rfl
    have ho : C.all (·.oneCell') = true := by rw [hC]; exact cells5_one ⟨n0, n1, n2, n3, d4⟩
    have HC := Lib.hid hC
    clear hC HB5
    go_upto_region 10 with fail
    refine wp_region_lit ?_
    refine wpList_load_row rfl 24 _ rfl (W.heap.size + 1) rfl 24 C (0, 0) _ HBC Tryd.underlying24 rfl (hi5 _ hz) ?_
    refine wpList_store_rowTo rfl 24 _ _ rfl rfl W.heap.size C rfl rfl 24 _ H5.out (hi5 _ hz) (by rw [hz]; rfl) ho ?_
    refine wpList_nil ?_
    have HR' := setRow_heap V5 W.heap.size _ C 24 (0, 0) H5.out
    have HRr := (setRow_other V5 W.heap.size R C (by omega)).trans HR5.out
    have HOr := HO5.out.setRow (Nat.le_refl _) C
    obtain ⟨W9, hW9⟩ : ∃ W9, W9 = V5.setRow W.heap.size C := ⟨_, rfl⟩
    rw [← hW9] at HR' HRr HOr ⊢
    clear hW9 H5 HR5 HO5
    go_wp2_with fail
    exact bodyPost_ret (results_cell_row Tryd.results22 _ _ W.heap.size 24 C (0, 0) _ rfl HR' Tryd.underlying24 rfl (hi5 _ hz)) rfl ⟨by rw [HP2.out, HC.out]; rfl, by rw [HP2.out]; exact HRr, HOr⟩

/-- the packet of bytes, or why they are none -/
def getP (s : ByteArray) : P5 × Int := if (R2.mk s 0).packet.2.end' = 0 then ((R2.mk s 0).packet.1, 0) else (zeroP, (R2.mk s 0).packet.2.end')
theorem res_get (tmps : Array Value) (w : World) (g : Nat) (C : Array Value) (n : Int) (hz : C.size = 5) (hp : tmps.getD 2 undef = .pointer (some ⟨g, 0, none⟩)) (h3 : tmps.getD 3 undef = .int .i64 n)
    (hg : w.heap[g]? = some (.cells C 24 (0, 0))) : (results Tryd.f15 tmps).run Tryd.prog w = .ok (.tuple #[.agg C, .int .i64 n]) w := by
  have hp' : tmps[2]?.getD undef = .pointer (some ⟨g, 0, none⟩) := by simpa using hp
  have h3' : tmps[3]?.getD undef = .int .i64 n := by simpa using h3
  simp [results, Tryd.results15, hp', h3', asAddr, run_loadVar_row w g 24 24 C (0, 0) _ hg Tryd.underlying24 rfl (by rw [hz]; kernel_rfl)]

theorem hst5 (w1 : World) (C : Array Value) (hz : C.size = 5) (ho : C.all (·.oneCell') = true) : (storeCells ⟨w1.heap.size, 0, none⟩ C.toList).run Tryd.prog (w1.alloc (.cells #[.int .i64 0, .int .i64 0, .int .u64 0, .int .u64 0, .string ⟨#[]⟩] 24)) = .ok () ((w1.alloc (.cells #[.int .i64 0, .int .i64 0, .int .u64 0, .int .u64 0, .string ⟨#[]⟩] 24)).setRow w1.heap.size C) := by
  obtain ⟨Y, hY⟩ : ∃ Y : Array Value, Y = #[.int .i64 0, .int .i64 0, .int .u64 0, .int .u64 0, .string ⟨#[]⟩] := ⟨_, rfl⟩
  rw [← hY]
  have hzz : Y.size = 5 := by rw [hY]; rfl
  clear hY
  have h := run_storeCells_at (P := Tryd.prog) w1.heap.size 0 24 C.toList 0 Y (w1.alloc (.cells Y 24)) (heap_alloc_new w1 _) (by rw [Array.length_toList, hz, hzz]; decide) (fun u hu => (Array.all_eq_true'.1 ho) u (by simpa using hu))
  simp only [Nat.add_zero, List.take_zero, List.nil_append, Nat.zero_add] at h
  rw [h, List.drop_of_length_le (by rw [Array.length_toList, hzz, Array.length_toList, hz]; exact Nat.le_refl _), List.append_nil]

set_option maxRecDepth 20000 in
set_option maxHeartbeats 1000000 in
theorem get_any (s : ByteArray) (hs : s.size ≤ 1099511627776) (W : World) :
    Calls Tryd.prog 15 #[.string s] W fun e w' => e = .returned (.tuple #[.agg (getP s).1.cells, .int .i64 (getP s).2]) ∧ Below W.heap.size W w' := by
  have hi5 : ∀ C : Array Value, C.size = 5 → (Tryd.prog.info? 24).map (·.size) = some C.size := fun C h => by rw [h]; kernel_rfl
  have HI5 := Lib.hid hi5
  have HT := Lib.hid (fun (R : Nat) (V : World) (h : Lies V R ⟨s, 0⟩) => take_any R ⟨s, 0⟩ hs V h)
  have hg : getP s = if (R2.mk s 0).packet.2.end' = 0 then ((R2.mk s 0).packet.1, 0) else (zeroP, (R2.mk s 0).packet.2.end') := rfl
  generalize (R2.mk s 0).packet = x at *
  obtain ⟨q, r⟩ := x
  dsimp only at hg HT
  have HG := Lib.hid hg
  clear hg hi5 hs
  go_enter Tryd.func15, Tryd.ntmps15
  go_wp2_with fail
  refine (new_any s _).mono ?_
  rintro _ w1 ⟨rfl, hw⟩
  have hz1 : (W.alloc (.cells #[.int .i64 0, .int .i64 0, .int .u64 0, .int .u64 0, .string ⟨#[]⟩] 24)).heap.size = W.heap.size + 1 := by simp
  have hA : w1.heap[W.heap.size]? = some (.cells zeroP.cells 24 (0, 0)) := by rw [hw, Below.heap_alloc _ _ _ (by simp)]; exact heap_alloc_new _ _
  have hR : Lies w1 (W.heap.size + 1) ⟨s, 0⟩ := by
    rw [hw]
    have := heap_alloc_new (W.alloc (.cells #[.int .i64 0, .int .i64 0, .int .u64 0, .int .u64 0, .string ⟨#[]⟩] 24)) (.cells #[.string s, .int .i64 0] 63)
    rw [hz1] at this
    exact this
  have hB : Below W.heap.size W w1 := by rw [hw]; exact ((Below.refl _ _).alloc (Nat.le_refl _) _).alloc (by simp) _
  rw [hz1]
  clear hw hz1
  have HA := Lib.hid hA
  have HB := Lib.hid hB
  clear hA hB
  go_wp2_with fail
  refine (HT.out _ _ hR).mono ?_
  rintro _ w2 ⟨rfl, hR2, hO⟩
  have hA2 := (hO.block _ (Array.getElem?_eq_some_iff.1 HA.out).1 (by omega)).trans HA.out
  have hB2 := Only.below HB.out hO (by omega) HB.out.size
  clear hR HA HB hO HT
  have HA := Lib.hid hA2
  have HB := Lib.hid hB2
  have HR2 := Lib.hid hR2
  clear hA2 hB2 hR2
  go_wp2_with fail
  rw [hst5 w2 q.cells rfl (cells5_one q)]
  simp only [Result.andThen]
  rw [Oper.upon_skip]
  simp only [Act.put]
  obtain ⟨W3, hW3⟩ : ∃ X, X = (w2.alloc (.cells #[.int .i64 0, .int .i64 0, .int .u64 0, .int .u64 0, .string ⟨#[]⟩] 24)).setRow w2.heap.size q.cells := ⟨_, rfl⟩
  rw [← hW3]
  have hz2 := (Array.getElem?_eq_some_iff.1 HR2.out).1
  have hA3 : W3.heap[W.heap.size]? = some (.cells zeroP.cells 24 (0, 0)) := by
    rw [hW3]; exact (setRow_other _ _ _ _ (by omega)).trans ((Below.heap_alloc _ _ _ (by omega)).trans HA.out)
  have hR3 : Lies W3 (W.heap.size + 1) r := by
    rw [hW3]; exact (setRow_other _ _ _ _ (by omega)).trans ((Below.heap_alloc _ _ _ (by omega)).trans HR2.out)
  have hC3 : W3.heap[w2.heap.size]? = some (.cells q.cells 24 (0, 0)) := by rw [hW3]; exact setRow_heap _ _ _ _ _ _ (heap_alloc_new w2 _)
  have hB3 : Below W.heap.size W W3 := by
    rw [hW3]
    have h1 := HB.out.alloc HB.out.size (.cells #[.int .i64 0, .int .i64 0, .int .u64 0, .int .u64 0, .string ⟨#[]⟩] 24)
    exact ⟨h1.os, h1.tape, h1.output, by simpa using h1.size, fun i hi => (setRow_other _ _ _ _ (by omega)).trans (h1.block i hi)⟩
  clear hW3 HA HB HR2
  have HA := Lib.hid hA3
  have HB := Lib.hid hB3
  have HC := Lib.hid hC3
  have HE := Lib.hid (end_any (W.heap.size + 1) r W3 hR3)
  clear hA3 hR3 hC3 hB3
  go_wp2_with fail
  refine HE.out.mono ?_
  rintro _ w4 ⟨rfl, hw⟩
  obtain rfl := hw.symm
  clear hw HE
  generalize r.end' = e at *
  by_cases he : e = 0
  · subst he
    have HG2 : Hid (getP s = (q, 0)) := Lib.hid (by rw [HG.out, if_pos rfl])
    clear HG
    go_upto_region 6 with fail
    refine wp_region_lit ?_
    refine wpList_load_row rfl 24 _ rfl w2.heap.size rfl 24 q.cells (0, 0) _ HC.out Tryd.underlying24 rfl (HI5.out _ rfl) ?_
    refine wpList_store_rowTo rfl 24 _ _ rfl rfl W.heap.size q.cells rfl rfl 24 _ HA.out (HI5.out _ rfl) rfl (cells5_one q) ?_
    have HR' := setRow_heap W3 W.heap.size _ q.cells 24 (0, 0) HA.out
    have hB9 : Below W.heap.size W (W3.setRow W.heap.size q.cells) := ⟨HB.out.os, HB.out.tape, HB.out.output, by simpa using HB.out.size, fun i hi => (setRow_other _ _ _ _ (by omega)).trans (HB.out.block i hi)⟩
    obtain ⟨W9, hW9⟩ : ∃ W9, W9 = W3.setRow W.heap.size q.cells := ⟨_, rfl⟩
    rw [← hW9] at HR' hB9 ⊢
    clear hW9 HA HB HC
    go_wp2_with fail
    exact bodyPost_ret (res_get _ _ W.heap.size q.cells 0 rfl rfl rfl HR') rfl ⟨by rw [HG2.out], hB9⟩
  · have he2 : (e == 0) = false := by simpa using he
    have HG2 : Hid (getP s = (zeroP, e)) := Lib.hid (by rw [HG.out, if_neg he])
    clear HG
    go_upto_region 5 with fail
    refine wp_region_lit ?_
    refine wpList_step (fun K hK => ?_)
    go_simp
    refine hK _ _ ?_
    clear hK K
    refine wpList_step (fun K hK => ?_)
    go_simp
    refine hK _ _ ?_
    clear hK K
    refine wpList_store_rowTo rfl 24 _ _ rfl rfl W.heap.size zeroP.cells rfl rfl 24 _ HA.out (HI5.out _ rfl) rfl (cells5_one _) ?_
    have HR' := setRow_heap W3 W.heap.size _ zeroP.cells 24 (0, 0) HA.out
    have hB9 : Below W.heap.size W (W3.setRow W.heap.size zeroP.cells) := ⟨HB.out.os, HB.out.tape, HB.out.output, by simpa using HB.out.size, fun i hi => (setRow_other _ _ _ _ (by omega)).trans (HB.out.block i hi)⟩
    obtain ⟨W9, hW9⟩ : ∃ W9, W9 = W3.setRow W.heap.size zeroP.cells := ⟨_, rfl⟩
    rw [← hW9] at HR' hB9 ⊢
    clear hW9 HA HB HC
    go_wp2_with fail
    exact bodyPost_ret (res_get _ _ W.heap.size zeroP.cells e rfl rfl rfl HR') rfl ⟨by rw [HG2.out], hB9⟩

theorem getP_back (p : P5) (hp : p.right) (ho : p.ok) : getP p.bytes = (p, 0) := by
  obtain ⟨c0, c1, f, d⟩ := hp
  obtain ⟨s0, s1, t0, t1, _⟩ := ho
  have hk : ∀ x : Int, (kS x) = numS (x.toNat % 18446744073709551616) := fun _ => rfl
  have e := bytes_list p
  rw [hk, hk, hk, hk] at e
  have l1 := num_back 3 (p.c.toNat % 18446744073709551616) p.bytes (kS p.f ++ (kS p.s ++ (kS p.t ++ textB p.d))) (by omega) (by omega) (by rw [e]; simp [hk, textB, textL])
  have l2 := num_back 1 (p.f.toNat % 18446744073709551616) (kS p.f ++ (kS p.s ++ (kS p.t ++ textB p.d))) (kS p.s ++ (kS p.t ++ textB p.d)) (by omega) (by omega) (by simp [hk])
  have l3 := num_back 18446744073709551615 (p.s.toNat % 18446744073709551616) (kS p.s ++ (kS p.t ++ textB p.d)) (kS p.t ++ textB p.d) (by omega) (by omega) (by simp [hk])
  have l4 := num_back 18446744073709551615 (p.t.toNat % 18446744073709551616) (kS p.t ++ textB p.d) (textB p.d) (by omega) (by omega) (by simp [hk])
  have l5 := text_back 64 (textB p.d) p.d ⟨#[]⟩ d (by omega) (by simp [textB, textL])
  have hpk : (R2.mk p.bytes 0).packet = (p, ⟨⟨#[]⟩, 0⟩) := by
    unfold R2.packet
    simp only [R2.num_ok l1, R2.num_ok l2, R2.num_ok l3, R2.num_ok l4, R2.text_ok l5, R2.failed_ok]
    rw [if_neg (by simp)]
    clear l1 l2 l3 l4 l5 e hk
    obtain ⟨c, f', s, t, dd⟩ := p
    dsimp only at *
    congr 2 <;> omega
  unfold getP
  rw [hpk]
  rw [if_pos (by rfl)]
end Go.Proofs.YtoghchbkkcgkcaaDoor.Rd
