/- txn.take: a transaction that is read. -/
import Derived.Test.YtfalmebgjghjeabMsgGet0
import Derived.Test.YtfalmebgjghjeabMsgRows0
import Derived.Test.YtfalmebgjghjeabOnlyOwn
import Derived.Test.YtfalmebgjghjeabTx0
import Derived.WalkMore
import Derived.Great.BuildSlice
namespace Go.Proofs.Ytfalmebgjghjeab.Rd
open Go Go.RowKit Num Texts Packet
open Msg (M7 mevs mevs_snoc mevs_len own_formN cells7_new)

/-- n messages that are read, up to the first one that isn't there -/
def msgsR : Nat → R2 → List M7 × R2
  | 0, r => ([], r)
  | n + 1, r => if r.msg.2.failed then ([], r.msg.2) else (r.msg.1 :: (msgsR n r.msg.2).1, (msgsR n r.msg.2).2)
theorem msgsR_len : ∀ (n : Nat) (r : R2), (msgsR n r).1.length ≤ n
  | 0, _ => Nat.le_refl _
  | n + 1, r => by
    unfold msgsR
    split
    · exact Nat.zero_le _
    · have := msgsR_len n r.msg.2; simp only [List.length_cons]; omega
/-- the transaction that is read, and the reader behind it -/
def R2.txn (r : R2) : (Nat × Nat × Nat × List M7) × R2 :=
  let a := r.num 1
  let b := a.2.num 4
  let c := b.2.num 18446744073709551615
  let d := c.2.num 8
  let q := msgsR d.1 d.2
  ((a.1, b.1, c.1, q.1), q.2)

theorem i4 (C : Array Value) (h : C.size = 4) : (Try.prog.info? 34).map (·.size) = some C.size := by rw [h]; kernel_rfl

set_option maxRecDepth 20000 in
set_option maxHeartbeats 4000000 in
theorem txtake_any (R : Nat) (r : R2) (hs : r.s.size ≤ 1099511627776) (W : World) (hR : Lies W R r) :
    Calls Try.prog 22 #[.pointer (some ⟨R, 0, none⟩)] W
      fun e w' => (∃ v, e = .returned (.agg #[.int .i64 (r.txn.1.1 : Int), .int .i64 (r.txn.1.2.1 : Int), .int .u64 (r.txn.1.2.2.1 : Int), v]) ∧ w'.ownsRow W.heap.size 50 7 v r.txn.1.2.2.2.length (mevs r.txn.1.2.2.2)) ∧ Lies w' R r.txn.2 ∧ Only R W w' := by
  obtain ⟨i1, hinf, hy0, hy1, hy2⟩ := info_parts Msg.infoM
  have hlt := (Array.getElem?_eq_some_iff.1 hR).1
  obtain ⟨W0, hW0⟩ : ∃ X, X = (W.alloc (.cells #[.int .i64 0, .int .i64 0, .int .u64 0, .slice none 0 0] 34)).alloc (.cells #[.int .i64 0, .int .i64 0, .int .u64 0, .slice none 0 0] 34) := ⟨_, rfl⟩
  have hA : W0.heap[W.heap.size]? = some (.cells #[.int .i64 0, .int .i64 0, .int .u64 0, .slice none 0 0] 34 (0, 0)) := by
    rw [hW0, Below.heap_alloc _ _ _ (by simp)]; exact heap_alloc_new _ _
  have hB : W0.heap[W.heap.size + 1]? = some (.cells #[.int .i64 0, .int .i64 0, .int .u64 0, .slice none 0 0] 34 (0, 0)) := by
    have := heap_alloc_new (W.alloc (.cells #[.int .i64 0, .int .i64 0, .int .u64 0, .slice none 0 0] 34)) (.cells #[.int .i64 0, .int .i64 0, .int .u64 0, .slice none 0 0] 34)
    rw [hW0]; simpa using this
  have hO : Only R W W0 := by rw [hW0]; exact ((Only.refl R W).alloc _).alloc _
  have hR0 : Lies W0 R r := by
    rw [hW0]; unfold Lies
    rw [Below.heap_alloc _ _ _ (by simp; omega), Below.heap_alloc _ _ _ hlt]; exact hR
  have H0 := Lib.hid hA
  have HB0 := Lib.hid hB
  have HO0 := Lib.hid hO
  have HR0 := Lib.hid hR0
  clear hA hB hO hR0 hR
  have hpk : r.txn = (let a := r.num 1
    let b := a.2.num 4
    let c := b.2.num 18446744073709551615
    let d := c.2.num 8
    let q := msgsR d.1 d.2
    ((a.1, b.1, c.1, q.1), q.2)) := rfl
  generalize r.txn = X at hpk ⊢
  have HP := Lib.hid hpk
  clear hpk
  have HS0 := Lib.hid hs
  clear hs
  go_enter Try.func22, Try.ntmps22
  go_wp2_with fail
  go_step3
  go_wp2_with fail
  rw [← hW0]
  clear hW0
  refine (rnum_any R r 1 (by decide) HS0.out _ HR0.out).mono ?_
  rintro _ w1 ⟨rfl, hR, hO⟩
  have hA := (hO.block _ (Array.getElem?_eq_some_iff.1 H0.out).1 (by omega)).trans H0.out
  have hB := (hO.block _ (Array.getElem?_eq_some_iff.1 HB0.out).1 (by omega)).trans HB0.out
  have hOO := HO0.out.trans hO
  have hs1 : (r.num 1).2.s.size ≤ 1099511627776 := Nat.le_trans (R2.num_rest _ _) HS0.out
  have hn0 : (r.num 1).1 ≤ 1 := R2.num_val _ _
  generalize r.num 1 = x at *
  obtain ⟨n0, r1⟩ := x
  dsimp only at *
  have hi0 : (n0 : Int) ≤ 1 := by omega
  have cB : w1.cell? ⟨W.heap.size + 1, 0, none⟩ = some (.int .i64 0) := cell_at hB 0
  have fB := free_at hB 0
  have hRn := set_off (i := 0) hR (show R ≠ W.heap.size + 1 by omega) (.int .i64 (n0 : Int))
  have hAn := set_off (i := 0) hA (show W.heap.size ≠ W.heap.size + 1 by omega) (.int .i64 (n0 : Int))
  have hBn := set_at hB 0 (.int .i64 (n0 : Int))
  have hOn := hOO.setNew (show W.heap.size ≤ W.heap.size + 1 by omega) 0 (.int .i64 (n0 : Int))
  obtain ⟨V1, hV⟩ : ∃ X, X = w1.setCell ⟨W.heap.size + 1, 0, none⟩ (.int .i64 (n0 : Int)) := ⟨_, rfl⟩
  rw [← hV] at hRn hAn hBn hOn
  have HS1 := Lib.hid hs1
  have HR1 := Lib.hid (show Lies V1 R r1 from hRn)
  have H1 := Lib.hid hAn
  have HB1 := Lib.hid (show V1.heap[W.heap.size + 1]? = some (.cells #[.int .i64 (n0 : Int), .int .i64 0, .int .u64 0, .slice none 0 0] 34 (0, 0)) from hBn)
  have HO1 := Lib.hid hOn
  have HV := Lib.hid hV
  clear hR hA hB hOO hO hs1 hRn hAn hBn hOn hV HR0 H0 HB0 HO0 HS0
  go_wp2_with fail
  rw [← HV.out]
  clear HV cB fB
  refine (rnum_any R r1 4 (by decide) HS1.out _ HR1.out).mono ?_
  rintro _ w2 ⟨rfl, hR, hO⟩
  have hA := (hO.block _ (Array.getElem?_eq_some_iff.1 H1.out).1 (by omega)).trans H1.out
  have hB := (hO.block _ (Array.getElem?_eq_some_iff.1 HB1.out).1 (by omega)).trans HB1.out
  have hOO := HO1.out.trans hO
  have hs2 : (r1.num 4).2.s.size ≤ 1099511627776 := Nat.le_trans (R2.num_rest _ _) HS1.out
  have hn1 : (r1.num 4).1 ≤ 4 := R2.num_val _ _
  generalize r1.num 4 = x at *
  obtain ⟨n1, r2⟩ := x
  dsimp only at *
  have hi1 : (n1 : Int) ≤ 4 := by omega
  have cB : w2.cell? ⟨W.heap.size + 1, 1, none⟩ = some (.int .i64 0) := cell_at hB 1
  have fB := free_at hB 1
  have hRn := set_off (i := 1) hR (show R ≠ W.heap.size + 1 by omega) (.int .i64 (n1 : Int))
  have hAn := set_off (i := 1) hA (show W.heap.size ≠ W.heap.size + 1 by omega) (.int .i64 (n1 : Int))
  have hBn := set_at hB 1 (.int .i64 (n1 : Int))
  have hOn := hOO.setNew (show W.heap.size ≤ W.heap.size + 1 by omega) 1 (.int .i64 (n1 : Int))
  obtain ⟨V2, hV⟩ : ∃ X, X = w2.setCell ⟨W.heap.size + 1, 1, none⟩ (.int .i64 (n1 : Int)) := ⟨_, rfl⟩
  rw [← hV] at hRn hAn hBn hOn
  have HS2 := Lib.hid hs2
  have HR2 := Lib.hid (show Lies V2 R r2 from hRn)
  have H2 := Lib.hid hAn
  have HB2 := Lib.hid (show V2.heap[W.heap.size + 1]? = some (.cells #[.int .i64 (n0 : Int), .int .i64 (n1 : Int), .int .u64 0, .slice none 0 0] 34 (0, 0)) from hBn)
  have HO2 := Lib.hid hOn
  have HV := Lib.hid hV
  clear hR hA hB hOO hO hs2 hRn hAn hBn hOn hV HR1 H1 HB1 HO1 HS1
  go_wp2_with fail
  rw [← HV.out]
  clear HV cB fB
  refine (rnum_any R r2 18446744073709551615 (by decide) HS2.out _ HR2.out).mono ?_
  rintro _ w3 ⟨rfl, hR, hO⟩
  have hA := (hO.block _ (Array.getElem?_eq_some_iff.1 H2.out).1 (by omega)).trans H2.out
  have hB := (hO.block _ (Array.getElem?_eq_some_iff.1 HB2.out).1 (by omega)).trans HB2.out
  have hOO := HO2.out.trans hO
  have hs3 : (r2.num 18446744073709551615).2.s.size ≤ 1099511627776 := Nat.le_trans (R2.num_rest _ _) HS2.out
  have hn2 : (r2.num 18446744073709551615).1 ≤ 18446744073709551615 := R2.num_val _ _
  generalize r2.num 18446744073709551615 = x at *
  obtain ⟨n2, r3⟩ := x
  dsimp only at *
  have hi2 : (n2 : Int) ≤ 18446744073709551615 := by omega
  have cB : w3.cell? ⟨W.heap.size + 1, 2, none⟩ = some (.int .u64 0) := cell_at hB 2
  have fB := free_at hB 2
  have hRn := set_off (i := 2) hR (show R ≠ W.heap.size + 1 by omega) (.int .u64 (n2 : Int))
  have hAn := set_off (i := 2) hA (show W.heap.size ≠ W.heap.size + 1 by omega) (.int .u64 (n2 : Int))
  have hBn := set_at hB 2 (.int .u64 (n2 : Int))
  have hOn := hOO.setNew (show W.heap.size ≤ W.heap.size + 1 by omega) 2 (.int .u64 (n2 : Int))
  obtain ⟨V3, hV⟩ : ∃ X, X = w3.setCell ⟨W.heap.size + 1, 2, none⟩ (.int .u64 (n2 : Int)) := ⟨_, rfl⟩
  rw [← hV] at hRn hAn hBn hOn
  have HS3 := Lib.hid hs3
  have HR3 := Lib.hid (show Lies V3 R r3 from hRn)
  have H3 := Lib.hid hAn
  have HB3 := Lib.hid (show V3.heap[W.heap.size + 1]? = some (.cells #[.int .i64 (n0 : Int), .int .i64 (n1 : Int), .int .u64 (n2 : Int), .slice none 0 0] 34 (0, 0)) from hBn)
  have HO3 := Lib.hid hOn
  have HV := Lib.hid hV
  clear hR hA hB hOO hO hs3 hRn hAn hBn hOn hV HR2 H2 HB2 HO2 HS2
  go_wp2_with fail
  rw [← HV.out]
  clear HV cB fB
  refine (rnum_any R r3 8 (by decide) HS3.out _ HR3.out).mono ?_
  rintro _ w4 ⟨rfl, hR, hO⟩
  have hA := (hO.block _ (Array.getElem?_eq_some_iff.1 H3.out).1 (by omega)).trans H3.out
  have hB := (hO.block _ (Array.getElem?_eq_some_iff.1 HB3.out).1 (by omega)).trans HB3.out
  have hOO := HO3.out.trans hO
  have hs4 : (r3.num 8).2.s.size ≤ 1099511627776 := Nat.le_trans (R2.num_rest _ _) HS3.out
  have hn3 : (r3.num 8).1 ≤ 8 := R2.num_val _ _
  generalize r3.num 8 = x at *
  obtain ⟨n, r4⟩ := x
  dsimp only at *
  have hni : (n : Int) ≤ 8 := by omega
  clear hO H3 HB3 HO3 HR3 HS3
  go_wp2_with fail
  go_step3
  go_wp2_with fail
  go_loopw [20] (fun i wr => ∃ (k : Nat) (ms : List M7) (rk : R2) (v : Value), i = .int .u64 (k : Int) ∧ k ≤ n ∧ ms.length = k ∧ msgsR n r4 = (ms ++ (msgsR (n - k) rk).1, (msgsR (n - k) rk).2) ∧ rk.s.size ≤ 1099511627776 ∧ Lies wr R rk ∧ wr.heap[W.heap.size]? = some (.cells #[.int .i64 0, .int .i64 0, .int .u64 0, .slice none 0 0] 34 (0, 0)) ∧ wr.heap[W.heap.size + 1]? = some (.cells #[.int .i64 (n0 : Int), .int .i64 (n1 : Int), .int .u64 (n2 : Int), v] 34 (0, 0)) ∧ wr.ownsRow W.heap.size 50 7 v k (mevs ms) ∧ Only R W wr) (fun i _ => n - (intOf i).toNat)
  case atStart => exact ⟨0, [], r4, .slice none 0 0, rfl, Nat.zero_le _, rfl, rfl, hs4, hR, hA, hB, World.ownsRow_nil _ _ _ _, hOO⟩
  case round =>
    obtain ⟨k, ms, rk, v, rfl, hk, hml, hmr, hsk, hRk, hAk, hBk, hown, hOk⟩ := hrel
    clear hR hA hB hOO hs4
    have HR := Lib.hid hRk
    have HA := Lib.hid hAk
    have HB := Lib.hid hBk
    have HW := Lib.hid hown
    have HO := Lib.hid hOk
    have HM := Lib.hid hmr
    clear hRk hAk hBk hown hOk hmr
    rcases Nat.lt_or_ge k n with hlt2 | hge
    · have hki : (k : Int) < (n : Int) := by omega
      have hnk : n - k = (n - (k + 1)) + 1 := by omega
      go_wp2_with fail
      refine (mtake_any R rk hsk _ HR.out).mono ?_
      rintro _ w5 ⟨rfl, hR5, hO5⟩
      have hA5 := (hO5.block _ (Array.getElem?_eq_some_iff.1 HA.out).1 (by omega)).trans HA.out
      have hB5 := (hO5.block _ (Array.getElem?_eq_some_iff.1 HB.out).1 (by omega)).trans HB.out
      have hW5 := own_only HW.out hO5 hlt
      have hOO5 := HO.out.trans hO5
      have hs5 : rk.msg.2.s.size ≤ 1099511627776 := Nat.le_trans (R2.msg_rest _) hsk
      have hstep : msgsR (n - k) rk = if rk.msg.2.failed then ([], rk.msg.2) else (rk.msg.1 :: (msgsR (n - (k + 1)) rk.msg.2).1, (msgsR (n - (k + 1)) rk.msg.2).2) := by rw [hnk]; rfl
      generalize rk.msg = x at *
      obtain ⟨m, r5⟩ := x
      dsimp only at *
      have HStep := Lib.hid hstep
      have hst := hst7 w5 m.cells rfl (cells7_one m)
      clear hstep hO5 HR HA HB HW HO
      go_upto_region 10 with fail
      obtain ⟨W6, hW6⟩ : ∃ X, X = (w5.alloc (.cells #[.int .i64 0, .int .i64 0, .int .i64 0, .int .u64 0, .int .u64 0, .string ⟨#[]⟩, .string ⟨#[]⟩] 50)).setRow w5.heap.size m.cells := ⟨_, rfl⟩
      have hb6 : Below w5.heap.size w5 W6 := by
        rw [hW6]
        have h1 := (Below.refl w5.heap.size w5).alloc (Nat.le_refl _) (.cells #[.int .i64 0, .int .i64 0, .int .i64 0, .int .u64 0, .int .u64 0, .string ⟨#[]⟩, .string ⟨#[]⟩] 50)
        exact ⟨h1.os, h1.tape, h1.output, by simp, fun i hi => (setRow_other _ _ _ _ (by omega)).trans (h1.block i hi)⟩
      have HQ := Lib.hid (show W6.heap[w5.heap.size]? = some (.cells m.cells 50 (0, 0)) by rw [hW6]; exact setRow_heap _ _ _ _ _ _ (heap_alloc_new w5 _))
      rw [← hW6]
      have HR := Lib.hid (show Lies W6 R r5 from (hb6.block _ (Array.getElem?_eq_some_iff.1 hR5).1).trans hR5)
      have HA := Lib.hid ((hb6.block _ (Array.getElem?_eq_some_iff.1 hA5).1).trans hA5)
      have HB := Lib.hid ((hb6.block _ (Array.getElem?_eq_some_iff.1 hB5).1).trans hB5)
      have HW := Lib.hid (own_below hW5 hb6)
      have HO := Lib.hid (hOO5.trans (Only.of_below hb6))
      obtain ⟨Q, hQ⟩ : ∃ Q, Q = w5.heap.size := ⟨_, rfl⟩
      rw [← hQ] at HQ ⊢
      clear hW6 hb6 hst hQ hR5 hA5 hB5 hW5 hOO5
      go_wp2_with fail
      refine (failed_any R r5 _ HR.out).mono ?_
      rintro _ w7 ⟨rfl, hw⟩
      obtain rfl := hw.symm
      clear hw
      cases hf : r5.failed with
      | true =>
        have HX : Hid (X = ((n0, n1, n2, ms), r5)) := Lib.hid (by
          rw [HP.out, HM.out, HStep.out, hf, if_pos rfl, List.append_nil])
        clear hf HM HStep HP HQ
        obtain ⟨A1, c1, rfl⟩ := own_formN HW.out
        obtain ⟨C, hC⟩ : ∃ C : Array Value, C = #[.int .i64 (n0 : Int), .int .i64 (n1 : Int), .int .u64 (n2 : Int), .slice A1 k c1] := ⟨_, rfl⟩
        have hz : C.size = 4 := by rw [hC]; rfl
        have ho : C.all (·.oneCell') = true := by
          rw [hC, Array.all_eq_true']
          intro x hx
          simp only [List.mem_toArray, List.mem_cons, List.not_mem_nil, or_false] at hx
          rcases hx with rfl | rfl | rfl | rfl <;> rfl
        have HC := Lib.hid hC
        have HB := Lib.hid (show W6.heap[W.heap.size + 1]? = some (.cells C 34 (0, 0)) by rw [hC]; exact HB.out)
        clear hC
        go_upto_region 12 with fail
        refine wp_region_lit ?_
        refine wpList_load_row rfl 34 _ rfl (W.heap.size + 1) rfl 34 C (0, 0) _ HB.out Try.underlying34 rfl (i4 _ hz) ?_
        refine wpList_store_rowTo rfl 34 _ _ rfl rfl W.heap.size C rfl rfl 34 _ HA.out (i4 _ hz) (by rw [hz]; rfl) ho ?_
        refine wpList_nil ?_
        have HR' := setRow_heap W6 W.heap.size _ C 34 (0, 0) HA.out
        have HRr := (setRow_other W6 W.heap.size R C (by omega)).trans HR.out
        have HOr := HO.out.setRow (Nat.le_refl _) C
        have HWr : (W6.setRow W.heap.size C).ownsRow W.heap.size 50 7 (.slice A1 k c1) k (mevs ms) := Msg.own_apart HW.out (row := some W.heap.size) (.inr (fun hv => by
          obtain ⟨_, _, ho⟩ := Msg.own_blk_type HW.out hv HA.out
          injection ho with _ h2 _
          exact absurd h2 (by decide))) ⟨rfl, rfl, rfl, by simp, fun j _ hne => setRow_other _ _ _ _ (fun e => hne (by rw [e]))⟩
        obtain ⟨W9, hW9⟩ : ∃ W9, W9 = W6.setRow W.heap.size C := ⟨_, rfl⟩
        rw [← hW9] at HR' HRr HOr HWr ⊢
        clear hW9 HA HR HO HB HW
        go_wp2_with fail
        rw [Exit.noGoto_ret]
        exact bodyPost_ret (results_cell_row Try.results22 _ _ W.heap.size 34 C (0, 0) _ rfl HR' Try.underlying34 rfl (i4 _ hz)) rfl ⟨⟨.slice A1 k c1, by rw [HX.out, HC.out], by rw [HX.out]; dsimp only; rw [hml]; exact HWr⟩, by rw [HX.out]; exact HRr, HOr⟩
      | false =>
        have HM2 : Hid (msgsR n r4 = (ms ++ [m] ++ (msgsR (n - (k + 1)) r5).1, (msgsR (n - (k + 1)) r5).2)) := Lib.hid (by
          rw [HM.out, HStep.out, hf, if_neg (by simp), List.append_assoc]; rfl)
        clear hf HM HStep
        obtain ⟨A1, c1, rfl⟩ := own_formN HW.out
        have hB3 : W6.cell? ⟨W.heap.size + 1, 3, none⟩ = some (.slice A1 k c1) := cell_at HB.out 3
        obtain ⟨x0, x1, x2, x3, x4, x5, x6⟩ : _ ∧ _ ∧ _ ∧ _ ∧ _ ∧ _ ∧ _ := ⟨cell_at HQ.out 0, cell_at HQ.out 1, cell_at HQ.out 2, cell_at HQ.out 3, cell_at HQ.out 4, cell_at HQ.out 5, cell_at HQ.out 6⟩
        unfold M7.cells at x0 x1 x2 x3 x4 x5 x6
        have hw6 : W.heap.size ≤ W6.heap.size := HO.out.size
        go_wp2_with (at_builtin; refine wpList_append_own_at _ rfl _ _ 32 rfl W.heap.size 50 i1 _ 7 72 Try.underlying32 hinf hy0 hy1 hy2 rfl (by decide) _ _ _ rfl (HW.out.alloc _) ⟨W6.heap.size, 0, none⟩ 1 1 m.cells.toList rfl rfl (cells7_new W6 m _) (Msg.cells7_one m) (by unfold maxLen; omega) (by omega) (by simp; omega) ?_)
        intro v1 w1 hown1 hg1 _ _
        have hwa := HW.out.alloc (.cells m.cells 50)
        have hA1 := grown_off ((Below.heap_alloc _ _ _ (Array.getElem?_eq_some_iff.1 HA.out).1).trans HA.out) hg1 hwa (by decide)
        have hB1 := grown_off ((Below.heap_alloc _ _ _ (Array.getElem?_eq_some_iff.1 HB.out).1).trans HB.out) hg1 hwa (by decide)
        have hR1 := grown_off ((Below.heap_alloc _ _ _ (Array.getElem?_eq_some_iff.1 HR.out).1).trans HR.out) hg1 hwa (by decide)
        have hO1 := (HO.out.alloc _).push hwa (Nat.le_refl _) hg1
        clear x0 x1 x2 x3 x4 x5 x6 hB3 hg1 hwa
        obtain ⟨A2, c2, rfl⟩ := own_formN hown1
        have hB3 : w1.cell? ⟨W.heap.size + 1, 3, none⟩ = some (.slice A1 k c1) := cell_at hB1 3
        have fB3 := free_at hB1 3
        have hwn := Msg.own_setblk (i := 3) (u := .slice A2 (k + 1) c2) hown1 hB1 (by decide)
        have HN := Lib.hid (And.intro hwn (And.intro (set_off (i := 3) hA1 (show W.heap.size ≠ W.heap.size + 1 by omega) (.slice A2 (k + 1) c2)) (And.intro (set_at hB1 3 (.slice A2 (k + 1) c2)) (And.intro (set_off (i := 3) hR1 (show R ≠ W.heap.size + 1 by omega) (.slice A2 (k + 1) c2)) (hO1.setNew (show W.heap.size ≤ W.heap.size + 1 by omega) 3 (.slice A2 (k + 1) c2))))))
        clear hA1 hB1 hR1 hO1 hown1 hwn
        go_wp2
        refine ⟨⟨k + 1, ms ++ [m], r5, .slice A2 (k + 1) c2, by go_num, by omega, by rw [List.length_append, hml]; rfl, HM2.out, hs5, HN.out.2.2.2.1, HN.out.2.1, HN.out.2.2.1, by rw [mevs_snoc]; exact HN.out.1, HN.out.2.2.2.2⟩, by simp [intOf]; omega⟩
    · have hkn : k = n := by omega
      subst hkn
      have HX : Hid (X = ((n0, n1, n2, ms), rk)) := Lib.hid (by
        rw [HP.out, HM.out, Nat.sub_self]
        show ((n0, n1, n2, ms ++ []), rk) = _
        rw [List.append_nil])
      clear HM HP
      obtain ⟨A1, c1, rfl⟩ := own_formN HW.out
      obtain ⟨WE, hWE⟩ : ∃ X, X = wr := ⟨_, rfl⟩
      rw [← hWE] at HA HB HR HO HW ⊢
      clear hWE
      obtain ⟨C, hC⟩ : ∃ C : Array Value, C = #[.int .i64 (n0 : Int), .int .i64 (n1 : Int), .int .u64 (n2 : Int), .slice A1 k c1] := ⟨_, rfl⟩
      have hz : C.size = 4 := by rw [hC]; rfl
      have ho : C.all (·.oneCell') = true := by
        rw [hC, Array.all_eq_true']
        intro x hx
        simp only [List.mem_toArray, List.mem_cons, List.not_mem_nil, or_false] at hx
        rcases hx with rfl | rfl | rfl | rfl <;> rfl
      have HC := Lib.hid hC
      have HB := Lib.hid (show WE.heap[W.heap.size + 1]? = some (.cells C 34 (0, 0)) by rw [hC]; exact HB.out)
      clear hC
      go_upto_region 12 with fail
      refine wp_region_lit ?_
      refine wpList_load_row rfl 34 _ rfl (W.heap.size + 1) rfl 34 C (0, 0) _ HB.out Try.underlying34 rfl (i4 _ hz) ?_
      refine wpList_store_rowTo rfl 34 _ _ rfl rfl W.heap.size C rfl rfl 34 _ HA.out (i4 _ hz) (by rw [hz]; rfl) ho ?_
      refine wpList_nil ?_
      have HR' := setRow_heap WE W.heap.size _ C 34 (0, 0) HA.out
      have HRr := (setRow_other WE W.heap.size R C (by omega)).trans HR.out
      have HOr := HO.out.setRow (Nat.le_refl _) C
      have HWr : (WE.setRow W.heap.size C).ownsRow W.heap.size 50 7 (.slice A1 k c1) k (mevs ms) := Msg.own_apart HW.out (row := some W.heap.size) (.inr (fun hv => by
        obtain ⟨_, _, ho⟩ := Msg.own_blk_type HW.out hv HA.out
        injection ho with _ h2 _
        exact absurd h2 (by decide))) ⟨rfl, rfl, rfl, by simp, fun j _ hne => setRow_other _ _ _ _ (fun e => hne (by rw [e]))⟩
      obtain ⟨W9, hW9⟩ : ∃ W9, W9 = WE.setRow W.heap.size C := ⟨_, rfl⟩
      rw [← hW9] at HR' HRr HOr HWr ⊢
      clear hW9 HA HR HO HB HW
      go_wp2_with fail
      rw [Exit.noGoto_ret]
      exact bodyPost_ret (results_cell_row Try.results22 _ _ W.heap.size 34 C (0, 0) _ rfl HR' Try.underlying34 rfl (i4 _ hz)) rfl ⟨⟨.slice A1 k c1, by rw [HX.out, HC.out], by rw [HX.out]; dsimp only; rw [hml]; exact HWr⟩, by rw [HX.out]; exact HRr, HOr⟩
end Go.Proofs.Ytfalmebgjghjeab.Rd
