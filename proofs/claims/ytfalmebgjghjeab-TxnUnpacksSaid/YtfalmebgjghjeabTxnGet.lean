/- txn.Get: the transaction of bytes; what was put is read as it was. -/
import Derived.Test.YtfalmebgjghjeabTxnTake
import Derived.Test.YtfalmebgjghjeabTxnPut
namespace Go.Proofs.Ytfalmebgjghjeab.Rd
open Go Go.RowKit Num Texts Packet
open Msg (M7 mevs own_formN txright txright_any tB mL mB mright)

abbrev Q4 := Nat × Nat × Nat × List M7
/-- the transaction of bytes, or why they are none -/
def getT (s : ByteArray) : Q4 × Int := if (R2.mk s 0).txn.2.end' ≠ 0 then ((0, 0, 0, []), (R2.mk s 0).txn.2.end') else if txright ((R2.mk s 0).txn.1.1 : Int) ((R2.mk s 0).txn.1.2.1 : Int) (R2.mk s 0).txn.1.2.2.2 then ((R2.mk s 0).txn.1, 0) else ((0, 0, 0, []), 3)
theorem res_tget (tmps : Array Value) (w : World) (g : Nat) (C : Array Value) (n : Int) (hz : C.size = 4) (hp : tmps.getD 2 undef = .pointer (some ⟨g, 0, none⟩)) (h3 : tmps.getD 3 undef = .int .i64 n)
    (hg : w.heap[g]? = some (.cells C 34 (0, 0))) : (results Try.f10 tmps).run Try.prog w = .ok (.tuple #[.agg C, .int .i64 n]) w := by
  have hp' : tmps[2]?.getD undef = .pointer (some ⟨g, 0, none⟩) := by simpa using hp
  have h3' : tmps[3]?.getD undef = .int .i64 n := by simpa using h3
  simp [results, Try.results10, hp', h3', asAddr, run_loadVar_row w g 34 34 C (0, 0) _ hg Try.underlying34 rfl (i4 C hz)]
theorem four_one (a b c : Int) (A : Option Addr) (n k : Nat) : (#[.int .i64 a, .int .i64 b, .int .u64 c, .slice A n k] : Array Value).all (·.oneCell') = true := by
  rw [Array.all_eq_true']
  intro x hx
  simp only [List.mem_toArray, List.mem_cons, List.not_mem_nil, or_false] at hx
  rcases hx with rfl | rfl | rfl | rfl <;> rfl

set_option maxRecDepth 20000 in
set_option maxHeartbeats 4000000 in
theorem tget_any (s : ByteArray) (hs : s.size ≤ 1099511627776) (W : World) :
    Calls Try.prog 10 #[.string s] W fun e w' => (∃ v, e = .returned (.tuple #[.agg #[.int .i64 ((getT s).1.1 : Int), .int .i64 ((getT s).1.2.1 : Int), .int .u64 ((getT s).1.2.2.1 : Int), v], .int .i64 (getT s).2]) ∧ w'.ownsRow W.heap.size 50 7 v (getT s).1.2.2.2.length (mevs (getT s).1.2.2.2)) ∧ Below W.heap.size W w' := by
  have HT := Lib.hid (fun (R : Nat) (V : World) (h : Lies V R ⟨s, 0⟩) => txtake_any R ⟨s, 0⟩ hs V h)
  have hg : getT s = if (R2.mk s 0).txn.2.end' ≠ 0 then ((0, 0, 0, []), (R2.mk s 0).txn.2.end') else if txright ((R2.mk s 0).txn.1.1 : Int) ((R2.mk s 0).txn.1.2.1 : Int) (R2.mk s 0).txn.1.2.2.2 then ((R2.mk s 0).txn.1, 0) else ((0, 0, 0, []), 3) := rfl
  have hlen : (R2.mk s 0).txn.1.2.2.2.length ≤ 8 := Nat.le_trans (msgsR_len _ _) (R2.num_val _ _)
  generalize getT s = X at hg ⊢
  generalize (R2.mk s 0).txn = x at *
  obtain ⟨q, r⟩ := x
  dsimp only at hg HT hlen
  have HG := Lib.hid hg
  clear hg hs
  go_enter Try.func10, Try.ntmps10
  go_wp2_with fail
  refine (new_any s _).mono ?_
  rintro _ w1 ⟨rfl, hw⟩
  have hz1 : (W.alloc (.cells #[.int .i64 0, .int .i64 0, .int .u64 0, .slice none 0 0] 34)).heap.size = W.heap.size + 1 := by simp
  have hA : w1.heap[W.heap.size]? = some (.cells #[.int .i64 0, .int .i64 0, .int .u64 0, .slice none 0 0] 34 (0, 0)) := by rw [hw, Below.heap_alloc _ _ _ (by simp)]; exact heap_alloc_new _ _
  have hR : Lies w1 (W.heap.size + 1) ⟨s, 0⟩ := by
    rw [hw]
    have := heap_alloc_new (W.alloc (.cells #[.int .i64 0, .int .i64 0, .int .u64 0, .slice none 0 0] 34)) (.cells #[.string s, .int .i64 0] 68)
    rw [hz1] at this
    exact this
  have hB : Below W.heap.size W w1 := by rw [hw]; exact ((Below.refl _ _).alloc (Nat.le_refl _) _).alloc (by simp) _
  rw [hz1]
  clear hw hz1
  have HA := Lib.hid hA
  have HB := Lib.hid hB
  clear hA hB
  go_wp2_with fail
  refine (HT.out _ _ hR).mono ?_
  rintro _ w2 ⟨⟨v, rfl, hW2⟩, hR2, hO⟩
  have hA2 := (hO.block _ (Array.getElem?_eq_some_iff.1 HA.out).1 (by omega)).trans HA.out
  have hW2 := Msg.own_base hW2 HB.out.size
  have hB2 := Only.below HB.out hO (by omega) HB.out.size
  clear hR HA HB hO HT
  obtain ⟨A1, c1, rfl⟩ := own_formN hW2
  have HA := Lib.hid hA2
  have HB := Lib.hid hB2
  have HR2 := Lib.hid hR2
  have HW2 := Lib.hid hW2
  clear hA2 hB2 hR2 hW2
  go_upto_region 3 with fail
  obtain ⟨C, hC⟩ : ∃ C : Array Value, C = #[.int .i64 (q.1 : Int), .int .i64 (q.2.1 : Int), .int .u64 (q.2.2.1 : Int), .slice A1 q.2.2.2.length c1] := ⟨_, rfl⟩
  have hz2 := (Array.getElem?_eq_some_iff.1 HR2.out).1
  obtain ⟨W3, hW3⟩ : ∃ X, X = w2.alloc (.cells #[.int .i64 (q.1 : Int), .int .i64 (q.2.1 : Int), .int .u64 (q.2.2.1 : Int), .slice A1 q.2.2.2.length c1] 34) := ⟨_, rfl⟩
  rw [← hW3]
  have HA := Lib.hid (show W3.heap[W.heap.size]? = some (.cells #[.int .i64 0, .int .i64 0, .int .u64 0, .slice none 0 0] 34 (0, 0)) by rw [hW3]; exact (Below.heap_alloc _ _ _ (by omega)).trans HA.out)
  have HR := Lib.hid (show Lies W3 (W.heap.size + 1) r by rw [hW3]; exact (Below.heap_alloc _ _ _ (by omega)).trans HR2.out)
  have HC := Lib.hid (show W3.heap[w2.heap.size]? = some (.cells C 34 (0, 0)) by rw [hW3, hC]; exact heap_alloc_new w2 _)
  have HW := Lib.hid (show W3.ownsRow W.heap.size 50 7 (.slice A1 q.2.2.2.length c1) q.2.2.2.length (mevs q.2.2.2) by rw [hW3]; exact HW2.out.alloc _)
  have HB := Lib.hid (show Below W.heap.size W W3 by rw [hW3]; exact HB.out.alloc HB.out.size _)
  have hQ : W.heap.size + 1 < w2.heap.size := hz2
  clear hW3 HR2 HW2 hz2
  obtain ⟨Q, hQe⟩ : ∃ Q, Q = w2.heap.size := ⟨_, rfl⟩
  rw [← hQe] at HC hQ ⊢
  clear hQe
  have hz : C.size = 4 := by rw [hC]; rfl
  have ho : C.all (·.oneCell') = true := by rw [hC]; exact four_one _ _ _ _ _ _
  have HTR := Lib.hid (fun V (h : Msg.Rd V A1 q.2.2.2.length q.2.2.2) => txright_any (q.1 : Int) (q.2.1 : Int) (q.2.2.1 : Int) A1 q.2.2.2.length c1 q.2.2.2 V h (by omega))
  rw [← hC] at HTR
  have HCe := Lib.hid hC
  clear hC
  have HE := Lib.hid (end_any (W.heap.size + 1) r W3 HR.out)
  clear HR
  go_wp2_with fail
  refine HE.out.mono ?_
  rintro _ w4 ⟨rfl, hw⟩
  obtain rfl := hw.symm
  clear hw HE
  obtain ⟨e, hee⟩ : ∃ e, e = r.end' := ⟨_, rfl⟩
  rw [← hee]
  have HEe : Hid (r.end' = e) := Lib.hid hee.symm
  clear hee
  by_cases he : e = 0
  · subst he
    go_upto_region 6 with fail
    refine wp_region_lit ?_
    refine wpList_load_row rfl 34 _ rfl Q rfl 34 C (0, 0) _ HC.out Try.underlying34 rfl (i4 _ hz) ?_
    refine wpList_step (fun K hK => ?_)
    go_simp
    refine (HTR.out _ (Msg.row_at HW.out rfl)).mono ?_
    rintro _ w5 ⟨rfl, b5⟩
    have HA := Lib.hid ((b5.block _ (Array.getElem?_eq_some_iff.1 HA.out).1).trans HA.out)
    have HC := Lib.hid ((b5.block _ (Array.getElem?_eq_some_iff.1 HC.out).1).trans HC.out)
    have HW := Lib.hid (own_below HW.out b5)
    have HB := Lib.hid (HB.out.trans (b5.mono HB.out.size))
    clear b5
    refine hK _ _ ?_
    clear hK K
    cases hmr : txright (q.1 : Int) (q.2.1 : Int) q.2.2.2 with
    | true =>
      have HG2 : Hid (X = (q, 0)) := Lib.hid (by rw [HG.out, HEe.out, if_neg (by simp), if_pos hmr])
      clear HG hmr
      go_upto_region 8 with fail
      refine wp_region_lit ?_
      refine wpList_load_row rfl 34 _ rfl Q rfl 34 C (0, 0) _ HC.out Try.underlying34 rfl (i4 _ hz) ?_
      refine wpList_store_rowTo rfl 34 _ _ rfl rfl W.heap.size C rfl rfl 34 _ HA.out (i4 _ hz) (by rw [hz]; rfl) ho ?_
      have HR' := setRow_heap w5 W.heap.size _ C 34 (0, 0) HA.out
      have hB9 : Below W.heap.size W (w5.setRow W.heap.size C) := ⟨HB.out.os, HB.out.tape, HB.out.output, by simpa using HB.out.size, fun i hi => (setRow_other _ _ _ _ (by omega)).trans (HB.out.block i hi)⟩
      have HWr : (w5.setRow W.heap.size C).ownsRow W.heap.size 50 7 (.slice A1 q.2.2.2.length c1) q.2.2.2.length (mevs q.2.2.2) := Msg.own_apart HW.out (row := some W.heap.size) (.inr (fun hv => by
        obtain ⟨_, _, ho⟩ := Msg.own_blk_type HW.out hv HA.out
        injection ho with _ h2 _
        exact absurd h2 (by decide))) ⟨rfl, rfl, rfl, by simp, fun j _ hne => setRow_other _ _ _ _ (fun e => hne (by rw [e]))⟩
      obtain ⟨W9, hW9⟩ : ∃ W9, W9 = w5.setRow W.heap.size C := ⟨_, rfl⟩
      rw [← hW9] at HR' hB9 HWr ⊢
      clear hW9 HA HB HC
      go_wp2_with fail
      exact bodyPost_ret (res_tget _ _ W.heap.size C 0 hz rfl rfl HR') rfl ⟨⟨_, by rw [HG2.out, HCe.out], by rw [HG2.out]; exact HWr⟩, hB9⟩
    | false =>
      have HG2 : Hid (X = ((0, 0, 0, []), 3)) := Lib.hid (by rw [HG.out, HEe.out, if_neg (by simp), hmr, if_neg (by simp)])
      clear HG hmr
      go_upto_region 7 with fail
      refine wp_region_lit ?_
      refine wpList_step (fun K hK => ?_)
      go_simp
      refine hK _ _ ?_
      clear hK K
      refine wpList_store_rowTo rfl 34 _ _ rfl rfl W.heap.size #[.int .i64 0, .int .i64 0, .int .u64 0, .slice none 0 0] rfl rfl 34 _ HA.out (i4 _ rfl) rfl (four_one _ _ _ _ _ _) ?_
      have HR' := setRow_heap w5 W.heap.size _ #[.int .i64 0, .int .i64 0, .int .u64 0, .slice none 0 0] 34 (0, 0) HA.out
      have hB9 : Below W.heap.size W (w5.setRow W.heap.size #[.int .i64 0, .int .i64 0, .int .u64 0, .slice none 0 0]) := ⟨HB.out.os, HB.out.tape, HB.out.output, by simpa using HB.out.size, fun i hi => (setRow_other _ _ _ _ (by omega)).trans (HB.out.block i hi)⟩
      obtain ⟨W9, hW9⟩ : ∃ W9, W9 = w5.setRow W.heap.size #[.int .i64 0, .int .i64 0, .int .u64 0, .slice none 0 0] := ⟨_, rfl⟩
      rw [← hW9] at HR' hB9 ⊢
      clear hW9 HA HB HC
      go_wp2_with fail
      exact bodyPost_ret (res_tget _ _ W.heap.size #[.int .i64 0, .int .i64 0, .int .u64 0, .slice none 0 0] 3 rfl rfl rfl HR') rfl ⟨⟨.slice none 0 0, by rw [HG2.out]; rfl, by rw [HG2.out]; exact World.ownsRow_nil _ _ _ _⟩, hB9⟩
  · have he2 : (e == 0) = false := by simpa using he
    have HG2 : Hid (X = ((0, 0, 0, []), e)) := Lib.hid (by rw [HG.out, HEe.out, if_pos he])
    clear HG HTR
    go_upto_region 5 with fail
    refine wp_region_lit ?_
    refine wpList_step (fun K hK => ?_)
    go_simp
    refine hK _ _ ?_
    clear hK K
    refine wpList_step (fun K hK => ?_)
    go_simp
    refine hK _ _ ?_
    clear hK K
    refine wpList_store_rowTo rfl 34 _ _ rfl rfl W.heap.size #[.int .i64 0, .int .i64 0, .int .u64 0, .slice none 0 0] rfl rfl 34 _ HA.out (i4 _ rfl) rfl (four_one _ _ _ _ _ _) ?_
    have HR' := setRow_heap W3 W.heap.size _ #[.int .i64 0, .int .i64 0, .int .u64 0, .slice none 0 0] 34 (0, 0) HA.out
    have hB9 : Below W.heap.size W (W3.setRow W.heap.size #[.int .i64 0, .int .i64 0, .int .u64 0, .slice none 0 0]) := ⟨HB.out.os, HB.out.tape, HB.out.output, by simpa using HB.out.size, fun i hi => (setRow_other _ _ _ _ (by omega)).trans (HB.out.block i hi)⟩
    obtain ⟨W9, hW9⟩ : ∃ W9, W9 = W3.setRow W.heap.size #[.int .i64 0, .int .i64 0, .int .u64 0, .slice none 0 0] := ⟨_, rfl⟩
    rw [← hW9] at HR' hB9 ⊢
    clear hW9 HA HB HC
    go_wp2_with fail
    exact bodyPost_ret (res_tget _ _ W.heap.size #[.int .i64 0, .int .i64 0, .int .u64 0, .slice none 0 0] e rfl rfl rfl HR') rfl ⟨⟨.slice none 0 0, by rw [HG2.out]; rfl, by rw [HG2.out]; exact World.ownsRow_nil _ _ _ _⟩, hB9⟩

theorem msgs_back : ∀ (ms : List M7) (s rest : ByteArray), (∀ m ∈ ms, mright m = true ∧ m.wf) → s.data.toList = mL ms ++ rest.data.toList → msgsR ms.length ⟨s, 0⟩ = (ms, ⟨rest, 0⟩)
  | [], s, rest, _, hs => by
    have : s = rest := ext_list (by rw [hs]; rfl)
    rw [this]; rfl
  | m :: ms, s, rest, h, hs => by
    have h1 := h m (by simp)
    have hb := msg_back m h1.1 h1.2 s (mB ms ++ rest) (by rw [hs]; simp [mL, mB])
    have h2 := msgs_back ms (mB ms ++ rest) rest (fun x hx => h x (by simp [hx])) (by simp [mB])
    show (if (R2.mk s 0).msg.2.failed then ([], (R2.mk s 0).msg.2) else ((R2.mk s 0).msg.1 :: (msgsR ms.length (R2.mk s 0).msg.2).1, (msgsR ms.length (R2.mk s 0).msg.2).2)) = _
    rw [hb]
    dsimp only
    rw [R2.failed_ok, if_neg (by simp), h2]
theorem getT_back (side acc n : Int) (ms : List M7) (h : txright side acc ms = true) (hn : 0 ≤ n ∧ n < 18446744073709551616) (hw : ∀ m ∈ ms, m.wf) : getT (tB side acc n ms) = ((side.toNat, acc.toNat, n.toNat, ms), 0) := by
  obtain ⟨p1, p2, p3, p4, p5⟩ := Msg.txright_parts h
  have hk : ∀ x : Int, 0 ≤ x → x < 18446744073709551616 → kS x = numS x.toNat := fun x a b => by
    have e : kS x = numS (x.toNat % 18446744073709551616) := rfl
    rw [e, Nat.mod_eq_of_lt (by omega)]
  have e1 := hk side (by omega) (by omega)
  have e2 := hk acc (by omega) (by omega)
  have e3 := hk n hn.1 hn.2
  have e4 := hk (ms.length : Int) (by omega) (by omega)
  have l1 := num_back 1 side.toNat (tB side acc n ms) (kS acc ++ (kS n ++ (kS (ms.length : Int) ++ mB ms))) (by omega) (by omega) (by unfold tB; rw [e1]; simp)
  have l2 := num_back 4 acc.toNat (kS acc ++ (kS n ++ (kS (ms.length : Int) ++ mB ms))) (kS n ++ (kS (ms.length : Int) ++ mB ms)) (by omega) (by omega) (by rw [e2]; simp)
  have l3 := num_back 18446744073709551615 n.toNat (kS n ++ (kS (ms.length : Int) ++ mB ms)) (kS (ms.length : Int) ++ mB ms) (by omega) (by omega) (by rw [e3]; simp)
  have l4 := num_back 8 ms.length (kS (ms.length : Int) ++ mB ms) (mB ms) (by omega) (by omega) (by rw [e4]; simp)
  have l5 := msgs_back ms (mB ms) ⟨#[]⟩ (fun m hm => ⟨p5 m hm, hw m hm⟩) (by simp [mB])
  have hx : (R2.mk (tB side acc n ms) 0).txn = ((side.toNat, acc.toNat, n.toNat, ms), ⟨⟨#[]⟩, 0⟩) := by
    unfold R2.txn
    simp only [R2.num_ok l1, R2.num_ok l2, R2.num_ok l3, R2.num_ok l4, l5]
  unfold getT
  rw [hx]
  dsimp only
  rw [if_neg (fun h => h rfl), show ((side.toNat : Nat) : Int) = side by omega, show ((acc.toNat : Nat) : Int) = acc by omega, if_pos h]
end Go.Proofs.Ytfalmebgjghjeab.Rd
