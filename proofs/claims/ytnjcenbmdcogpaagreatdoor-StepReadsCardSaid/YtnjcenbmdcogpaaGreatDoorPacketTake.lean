import Derived.Test.YtnjcenbmdcogpaaGreatDoorRdAll
import Derived.Test.YtnjcenbmdcogpaaGreatDoorPkR
import Derived.Deep.Cut
import Derived.Great.BuildSlice
/- packet.Take, packet.Get: packets that are read. -/
namespace Go.Proofs.YtnjcenbmdcogpaaGreatDoor.Rd
open Go Go.RowKit Num Texts Packet

def zeroP : P5 := ⟨0, 0, 0, 0, ⟨#[]⟩⟩
/-- the packet that is read, and the reader behind it -/
def R2.packet (r : R2) : P5 × R2 :=
  let a := r.num 3
  let b := a.2.num 1
  let c := b.2.num 18446744073709551615
  let d := c.2.num 18446744073709551615
  let e := d.2.text 64
  (if e.2.failed then zeroP else ⟨(a.1 : Int), (b.1 : Int), (c.1 : Int), (d.1 : Int), e.1⟩, e.2)
theorem R2.packet_rest (r : R2) : r.packet.2.s.size ≤ r.s.size :=
  Nat.le_trans (R2.text_rest _ _) (Nat.le_trans (R2.num_rest _ _) (Nat.le_trans (R2.num_rest _ _) (Nat.le_trans (R2.num_rest _ _) (R2.num_rest _ _))))

theorem Only.setRow {R n : Nat} {a b : World} (h : Only R a b) (hn : a.heap.size ≤ n) (cs : Array Value) : Only R a (b.setRow n cs) :=
  ⟨h.os, h.tape, h.output, by simpa using h.size, fun k hk hne => (setRow_other b n k cs (by omega)).trans (h.block k hk hne)⟩
theorem cells5_one (p : P5) : p.cells.all (·.oneCell') = true := by
  rw [Array.all_eq_true']
  intro x hx
  simp only [P5.cells, List.mem_toArray, List.mem_cons, List.not_mem_nil, or_false] at hx
  rcases hx with rfl | rfl | rfl | rfl | rfl <;> rfl

set_option maxRecDepth 20000 in
set_option maxHeartbeats 2000000 in
theorem take_any (R : Nat) (r : R2) (hs : r.s.size ≤ 1099511627776) (W : World) (hR : Lies W R r) :
    Calls Tryz.prog 41 #[.pointer (some ⟨R, 0, none⟩)] W
      fun e w' => e = .returned (.agg r.packet.1.cells) ∧ Lies w' R r.packet.2 ∧ Only R W w' := by
  have hlt := (Array.getElem?_eq_some_iff.1 hR).1
  obtain ⟨W0, hW0⟩ : ∃ X, X = (W.alloc (.cells #[.int .i64 0, .int .i64 0, .int .u64 0, .int .u64 0, .string ⟨#[]⟩] 24)).alloc (.cells #[.int .i64 0, .int .i64 0, .int .u64 0, .int .u64 0, .string ⟨#[]⟩] 24) := ⟨_, rfl⟩
  have hA : W0.heap[W.heap.size]? = some (.cells #[.int .i64 0, .int .i64 0, .int .u64 0, .int .u64 0, .string ⟨#[]⟩] 24 (0, 0)) := by
    rw [hW0, Below.heap_alloc _ _ _ (by simp)]; exact heap_alloc_new _ _
  have hB : W0.heap[W.heap.size + 1]? = some (.cells #[.int .i64 0, .int .i64 0, .int .u64 0, .int .u64 0, .string ⟨#[]⟩] 24 (0, 0)) := by
    have := heap_alloc_new (W.alloc (.cells #[.int .i64 0, .int .i64 0, .int .u64 0, .int .u64 0, .string ⟨#[]⟩] 24)) (.cells #[.int .i64 0, .int .i64 0, .int .u64 0, .int .u64 0, .string ⟨#[]⟩] 24)
    rw [hW0]; simpa using this
  have hO : Only R W W0 := by rw [hW0]; exact ((Only.refl R W).alloc _).alloc _
  have hR0 : Lies W0 R r := by
    rw [hW0]; unfold Lies
    rw [Below.heap_alloc _ _ _ (by simp; omega), Below.heap_alloc _ _ _ hlt]; exact hR
  have H0 := Lib.hid hA
  have HB0 := Lib.hid hB
  have HO0 := Lib.hid hO
  have HR0 := Lib.hid hR0
  clear hA hB hO hR0 hR
  have hpk : r.packet = (let a := r.num 3
    let b := a.2.num 1
    let c := b.2.num 18446744073709551615
    let d := c.2.num 18446744073709551615
    let e := d.2.text 64
    (if e.2.failed then zeroP else ⟨(a.1 : Int), (b.1 : Int), (c.1 : Int), (d.1 : Int), e.1⟩, e.2)) := rfl
  have HP := Lib.hid hpk
  clear hpk
  have HS0 := Lib.hid hs
  clear hs
  go_enter Tryz.func41, Tryz.ntmps41
  go_upto_region 3 with fail
  rw [← hW0]
  clear hW0
  go_wp2_with fail
  refine (rnum_any R r 3 (by decide) HS0.out _ HR0.out).mono ?_
  rintro _ w1 ⟨rfl, hR, hO⟩
  have hA := (hO.block _ (Array.getElem?_eq_some_iff.1 H0.out).1 (by omega)).trans H0.out
  have hB := (hO.block _ (Array.getElem?_eq_some_iff.1 HB0.out).1 (by omega)).trans HB0.out
  have hOO := HO0.out.trans hO
  have hs1 : (r.num 3).2.s.size ≤ 1099511627776 := Nat.le_trans (R2.num_rest _ _) HS0.out
  have hn0 : (r.num 3).1 ≤ 3 := R2.num_val _ _
  generalize r.num 3 = x at *
  obtain ⟨n0, r1⟩ := x
  dsimp only at *
  have hi0 : (n0 : Int) ≤ 3 := by omega
  have cB : w1.cell? ⟨W.heap.size + 1, 0, none⟩ = some (.int .i64 0) := cell_at hB 0
  have fB := free_at hB 0
  have hRn := set_off (i := 0) hR (show R ≠ W.heap.size + 1 by omega) (.int .i64 (n0 : Int))
  have hAn := set_off (i := 0) hA (show W.heap.size ≠ W.heap.size + 1 by omega) (.int .i64 (n0 : Int))
  have hBn := set_at hB 0 (.int .i64 (n0 : Int))
  have hOn := hOO.setNew (show W.heap.size ≤ W.heap.size + 1 by omega) 0 (.int .i64 (n0 : Int))
  obtain ⟨V1, hV⟩ : ∃ X, X = w1.setCell ⟨W.heap.size + 1, 0, none⟩ (.int .i64 (n0 : Int)) := ⟨_, rfl⟩
  rw [← hV] at hRn hAn hBn hOn
  have HS1 := Lib.hid hs1
  have HR1 := Lib.hid hRn
  have H1 := Lib.hid hAn
  have HB1 := Lib.hid (show V1.heap[W.heap.size + 1]? = some (.cells #[.int .i64 (n0 : Int), .int .i64 0, .int .u64 0, .int .u64 0, .string ⟨#[]⟩] 24 (0, 0)) from hBn)
  have HO1 := Lib.hid hOn
  have HV := Lib.hid hV
  clear hR hA hB hOO hO hs1 hRn hAn hBn hOn hV HR0 H0 HB0 HO0 HS0
  go_upto_region 4 with fail
  rw [← HV.out]
  clear HV cB fB
  go_wp2_with fail
  refine (rnum_any R r1 1 (by decide) HS1.out _ HR1.out).mono ?_
  rintro _ w2 ⟨rfl, hR, hO⟩
  have hA := (hO.block _ (Array.getElem?_eq_some_iff.1 H1.out).1 (by omega)).trans H1.out
  have hB := (hO.block _ (Array.getElem?_eq_some_iff.1 HB1.out).1 (by omega)).trans HB1.out
  have hOO := HO1.out.trans hO
  have hs2 : (r1.num 1).2.s.size ≤ 1099511627776 := Nat.le_trans (R2.num_rest _ _) HS1.out
  have hn1 : (r1.num 1).1 ≤ 1 := R2.num_val _ _
  generalize r1.num 1 = x at *
  obtain ⟨n1, r2⟩ := x
  dsimp only at *
  have hi1 : (n1 : Int) ≤ 1 := by omega
  have cB : w2.cell? ⟨W.heap.size + 1, 1, none⟩ = some (.int .i64 0) := cell_at hB 1
  have fB := free_at hB 1
  have hRn := set_off (i := 1) hR (show R ≠ W.heap.size + 1 by omega) (.int .i64 (n1 : Int))
  have hAn := set_off (i := 1) hA (show W.heap.size ≠ W.heap.size + 1 by omega) (.int .i64 (n1 : Int))
  have hBn := set_at hB 1 (.int .i64 (n1 : Int))
  have hOn := hOO.setNew (show W.heap.size ≤ W.heap.size + 1 by omega) 1 (.int .i64 (n1 : Int))
  obtain ⟨V2, hV⟩ : ∃ X, X = w2.setCell ⟨W.heap.size + 1, 1, none⟩ (.int .i64 (n1 : Int)) := ⟨_, rfl⟩
  rw [← hV] at hRn hAn hBn hOn
  have HS2 := Lib.hid hs2
  have HR2 := Lib.hid hRn
  have H2 := Lib.hid hAn
  have HB2 := Lib.hid (show V2.heap[W.heap.size + 1]? = some (.cells #[.int .i64 (n0 : Int), .int .i64 (n1 : Int), .int .u64 0, .int .u64 0, .string ⟨#[]⟩] 24 (0, 0)) from hBn)
  have HO2 := Lib.hid hOn
  have HV := Lib.hid hV
  clear hR hA hB hOO hO hs2 hRn hAn hBn hOn hV HR1 H1 HB1 HO1 HS1
  go_upto_region 5 with fail
  rw [← HV.out]
  clear HV cB fB
  go_wp2_with fail
  refine (rnum_any R r2 18446744073709551615 (by decide) HS2.out _ HR2.out).mono ?_
  rintro _ w3 ⟨rfl, hR, hO⟩
  have hA := (hO.block _ (Array.getElem?_eq_some_iff.1 H2.out).1 (by omega)).trans H2.out
  have hB := (hO.block _ (Array.getElem?_eq_some_iff.1 HB2.out).1 (by omega)).trans HB2.out
  have hOO := HO2.out.trans hO
  have hs3 : (r2.num 18446744073709551615).2.s.size ≤ 1099511627776 := Nat.le_trans (R2.num_rest _ _) HS2.out
  have hn2 : (r2.num 18446744073709551615).1 ≤ 18446744073709551615 := R2.num_val _ _
  generalize r2.num 18446744073709551615 = x at *
  obtain ⟨n2, r3⟩ := x
  dsimp only at *
  have cB : w3.cell? ⟨W.heap.size + 1, 2, none⟩ = some (.int .u64 0) := cell_at hB 2
  have fB := free_at hB 2
  have hRn := set_off (i := 2) hR (show R ≠ W.heap.size + 1 by omega) (.int .u64 (n2 : Int))
  have hAn := set_off (i := 2) hA (show W.heap.size ≠ W.heap.size + 1 by omega) (.int .u64 (n2 : Int))
  have hBn := set_at hB 2 (.int .u64 (n2 : Int))
  have hOn := hOO.setNew (show W.heap.size ≤ W.heap.size + 1 by omega) 2 (.int .u64 (n2 : Int))
  obtain ⟨V3, hV⟩ : ∃ X, X = w3.setCell ⟨W.heap.size + 1, 2, none⟩ (.int .u64 (n2 : Int)) := ⟨_, rfl⟩
  rw [← hV] at hRn hAn hBn hOn
  have HS3 := Lib.hid hs3
  have HR3 := Lib.hid hRn
  have H3 := Lib.hid hAn
  have HB3 := Lib.hid (show V3.heap[W.heap.size + 1]? = some (.cells #[.int .i64 (n0 : Int), .int .i64 (n1 : Int), .int .u64 (n2 : Int), .int .u64 0, .string ⟨#[]⟩] 24 (0, 0)) from hBn)
  have HO3 := Lib.hid hOn
  have HV := Lib.hid hV
  clear hR hA hB hOO hO hs3 hRn hAn hBn hOn hV HR2 H2 HB2 HO2 HS2
  go_upto_region 6 with fail
  rw [← HV.out]
  clear HV cB fB
  go_wp2_with fail
  refine (rnum_any R r3 18446744073709551615 (by decide) HS3.out _ HR3.out).mono ?_
  rintro _ w4 ⟨rfl, hR, hO⟩
  have hA := (hO.block _ (Array.getElem?_eq_some_iff.1 H3.out).1 (by omega)).trans H3.out
  have hB := (hO.block _ (Array.getElem?_eq_some_iff.1 HB3.out).1 (by omega)).trans HB3.out
  have hOO := HO3.out.trans hO
  have hs4 : (r3.num 18446744073709551615).2.s.size ≤ 1099511627776 := Nat.le_trans (R2.num_rest _ _) HS3.out
  have hn3 : (r3.num 18446744073709551615).1 ≤ 18446744073709551615 := R2.num_val _ _
  generalize r3.num 18446744073709551615 = x at *
  obtain ⟨n3, r4⟩ := x
  dsimp only at *
  have cB : w4.cell? ⟨W.heap.size + 1, 3, none⟩ = some (.int .u64 0) := cell_at hB 3
  have fB := free_at hB 3
  have hRn := set_off (i := 3) hR (show R ≠ W.heap.size + 1 by omega) (.int .u64 (n3 : Int))
  have hAn := set_off (i := 3) hA (show W.heap.size ≠ W.heap.size + 1 by omega) (.int .u64 (n3 : Int))
  have hBn := set_at hB 3 (.int .u64 (n3 : Int))
  have hOn := hOO.setNew (show W.heap.size ≤ W.heap.size + 1 by omega) 3 (.int .u64 (n3 : Int))
  obtain ⟨V4, hV⟩ : ∃ X, X = w4.setCell ⟨W.heap.size + 1, 3, none⟩ (.int .u64 (n3 : Int)) := ⟨_, rfl⟩
  rw [← hV] at hRn hAn hBn hOn
  have HS4 := Lib.hid hs4
  have HR4 := Lib.hid hRn
  have H4 := Lib.hid hAn
  have HB4 := Lib.hid (show V4.heap[W.heap.size + 1]? = some (.cells #[.int .i64 (n0 : Int), .int .i64 (n1 : Int), .int .u64 (n2 : Int), .int .u64 (n3 : Int), .string ⟨#[]⟩] 24 (0, 0)) from hBn)
  have HO4 := Lib.hid hOn
  have HV := Lib.hid hV
  clear hR hA hB hOO hO hs4 hRn hAn hBn hOn hV HR3 H3 HB3 HO3 HS3
  go_upto_region 7 with fail
  rw [← HV.out]
  clear HV cB fB
  go_wp2_with fail
  refine (rtext_any R r4 64 (by decide) HS4.out _ HR4.out).mono ?_
  rintro _ w5 ⟨rfl, hR, hO⟩
  have hA := (hO.block _ (Array.getElem?_eq_some_iff.1 H4.out).1 (by omega)).trans H4.out
  have hB := (hO.block _ (Array.getElem?_eq_some_iff.1 HB4.out).1 (by omega)).trans HB4.out
  have hOO := HO4.out.trans hO
  have hs5 : (r4.text 64).2.s.size ≤ 1099511627776 := Nat.le_trans (R2.text_rest _ _) HS4.out
  generalize r4.text 64 = x at *
  obtain ⟨d4, r5⟩ := x
  dsimp only at *
  have cB : w5.cell? ⟨W.heap.size + 1, 4, none⟩ = some (.string ⟨#[]⟩) := cell_at hB 4
  have fB := free_at hB 4
  have hRn := set_off (i := 4) hR (show R ≠ W.heap.size + 1 by omega) (.string d4)
  have hAn := set_off (i := 4) hA (show W.heap.size ≠ W.heap.size + 1 by omega) (.string d4)
  have hBn := set_at hB 4 (.string d4)
  have hOn := hOO.setNew (show W.heap.size ≤ W.heap.size + 1 by omega) 4 (.string d4)
  obtain ⟨V5, hV⟩ : ∃ X, X = w5.setCell ⟨W.heap.size + 1, 4, none⟩ (.string d4) := ⟨_, rfl⟩
  rw [← hV] at hRn hAn hBn hOn
  have HS5 := Lib.hid hs5
  have HR5 := Lib.hid hRn
  have H5 := Lib.hid hAn
  have HB5 := Lib.hid (show V5.heap[W.heap.size + 1]? = some (.cells #[.int .i64 (n0 : Int), .int .i64 (n1 : Int), .int .u64 (n2 : Int), .int .u64 (n3 : Int), .string d4] 24 (0, 0)) from hBn)
  have HO5 := Lib.hid hOn
  have HV := Lib.hid hV
  clear hR hA hB hOO hO hs5 hRn hAn hBn hOn hV HR4 H4 HB4 HO4 HS4
  go_upto_region 8 with fail
  rw [← HV.out]
  clear HV cB fB
  go_wp2_with fail
  refine (failed_any R r5 _ HR5.out).mono ?_
  rintro _ w6 ⟨rfl, hw⟩
  obtain rfl := hw.symm
  clear hw
  have hi5 : ∀ C : Array Value, C.size = 5 → (Tryz.prog.info? 24).map (·.size) = some C.size := fun C h => by rw [h]; kernel_rfl
  cases hf : r5.failed with
  | true =>
    have HP2 : Hid (r.packet = (zeroP, r5)) := Lib.hid (by rw [HP.out, hf, if_pos rfl])
    clear hf HB5 HP
    go_upto_region 9 with fail
    refine wp_region_lit ?_
    refine wpList_step (fun K hK => ?_)
    go_simp
    refine hK _ _ ?_
    clear hK K
    refine wpList_store_rowTo rfl 24 _ _ rfl rfl W.heap.size zeroP.cells rfl rfl 24 _ H5.out (hi5 _ rfl) rfl (cells5_one _) ?_
    refine wpList_nil ?_
    have HR' := setRow_heap V5 W.heap.size _ zeroP.cells 24 (0, 0) H5.out
    have HRr := (setRow_other V5 W.heap.size R zeroP.cells (by omega)).trans HR5.out
    have HOr := HO5.out.setRow (Nat.le_refl _) zeroP.cells
    obtain ⟨W9, hW9⟩ : ∃ W9, W9 = V5.setRow W.heap.size zeroP.cells := ⟨_, rfl⟩
    rw [← hW9] at HR' HRr HOr ⊢
    clear hW9 H5 HR5 HO5
    go_wp2_with fail
    exact bodyPost_ret (results_cell_row Tryz.results41 _ _ W.heap.size 24 zeroP.cells (0, 0) _ rfl HR' Tryz.underlying24 rfl (hi5 _ rfl)) rfl ⟨by rw [HP2.out], by rw [HP2.out]; exact HRr, HOr⟩
  | false =>
    have HP2 : Hid (r.packet = (⟨(n0 : Int), (n1 : Int), (n2 : Int), (n3 : Int), d4⟩, r5)) := Lib.hid (by rw [HP.out, hf, if_neg (by simp)])
    clear hf HP
    obtain ⟨C, hC⟩ : ∃ C : Array Value, C = #[.int .i64 (n0 : Int), .int .i64 (n1 : Int), .int .u64 (n2 : Int), .int .u64 (n3 : Int), .string d4] := ⟨_, rfl⟩
    have HBC := HB5.out
    rw [← hC] at HBC
    have hz : C.size = 5 := by rw [hC]; rfl
    have ho : C.all (·.oneCell') = true := by rw [hC]; exact cells5_one ⟨n0, n1, n2, n3, d4⟩
    have HC := Lib.hid hC
    clear hC HB5
    go_upto_region 10 with fail
    refine wp_region_lit ?_
    refine wpList_load_row rfl 24 _ rfl (W.heap.size + 1) rfl 24 C (0, 0) _ HBC Tryz.underlying24 rfl (hi5 _ hz) ?_
    refine wpList_store_rowTo rfl 24 _ _ rfl rfl W.heap.size C rfl rfl 24 _ H5.out (hi5 _ hz) (by rw [hz]; rfl) ho ?_
    refine wpList_nil ?_
    have HR' := setRow_heap V5 W.heap.size _ C 24 (0, 0) H5.out
    have HRr := (setRow_other V5 W.heap.size R C (by omega)).trans HR5.out
    have HOr := HO5.out.setRow (Nat.le_refl _) C
    obtain ⟨W9, hW9⟩ : ∃ W9, W9 = V5.setRow W.heap.size C := ⟨_, rfl⟩
    rw [← hW9] at HR' HRr HOr ⊢
    clear hW9 H5 HR5 HO5
    go_wp2_with fail
    exact bodyPost_ret (results_cell_row Tryz.results41 _ _ W.heap.size 24 C (0, 0) _ rfl HR' Tryz.underlying24 rfl (hi5 _ hz)) rfl ⟨by rw [HP2.out, HC.out]; rfl, by rw [HP2.out]; exact HRr, HOr⟩

theorem packet_back (p : P5) (hp : p.right) (ho : p.ok) (s rest : ByteArray) (hs : s.data.toList = p.bytes.data.toList ++ rest.data.toList) : (R2.mk s 0).packet = (p, ⟨rest, 0⟩) := by
  obtain ⟨c0, c1, f, d⟩ := hp
  obtain ⟨s0, s1, t0, t1, _⟩ := ho
  have hk : ∀ x : Int, (kS x) = numS (x.toNat % 18446744073709551616) := fun _ => rfl
  have e := bytes_list p
  rw [hk, hk, hk, hk] at e
  have l1 := num_back 3 (p.c.toNat % 18446744073709551616) s (kS p.f ++ (kS p.s ++ (kS p.t ++ (textB p.d ++ rest)))) (by omega) (by omega) (by rw [hs, e]; simp [hk, textB, textL])
  have l2 := num_back 1 (p.f.toNat % 18446744073709551616) (kS p.f ++ (kS p.s ++ (kS p.t ++ (textB p.d ++ rest)))) (kS p.s ++ (kS p.t ++ (textB p.d ++ rest))) (by omega) (by omega) (by simp [hk])
  have l3 := num_back 18446744073709551615 (p.s.toNat % 18446744073709551616) (kS p.s ++ (kS p.t ++ (textB p.d ++ rest))) (kS p.t ++ (textB p.d ++ rest)) (by omega) (by omega) (by simp [hk])
  have l4 := num_back 18446744073709551615 (p.t.toNat % 18446744073709551616) (kS p.t ++ (textB p.d ++ rest)) (textB p.d ++ rest) (by omega) (by omega) (by simp [hk])
  have l5 := text_back 64 (textB p.d ++ rest) p.d rest d (by omega) (by simp [textB, textL])
  unfold R2.packet
  simp only [R2.num_ok l1, R2.num_ok l2, R2.num_ok l3, R2.num_ok l4, R2.text_ok l5, R2.failed_ok]
  rw [if_neg (by simp)]
  clear l1 l2 l3 l4 l5 e hk
  obtain ⟨c, f', s, t, dd⟩ := p
  dsimp only at *
  congr 2 <;> omega

end Go.Proofs.YtnjcenbmdcogpaaGreatDoor.Rd
