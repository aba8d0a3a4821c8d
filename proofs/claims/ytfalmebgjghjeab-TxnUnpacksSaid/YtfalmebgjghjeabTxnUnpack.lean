/- wire.Unpack of transactions, txn.Unpack: which batch any bytes are. -/
import Derived.Test.YtfalmebgjghjeabTxnEach
import Derived.Test.YtfalmebgjghjeabReadLists
namespace Go.Proofs.Ytfalmebgjghjeab.Rd
open Go Go.RowKit Num Texts Packet
open Msg (M7 mevs own_formN T4 TT TM tcells own_base)

theorem textR_size (m : Nat) (s : ByteArray) : (textR m s).1.size ≤ s.size := by
  have := numR_rest 18446744073709551615 s
  unfold textR
  dsimp only
  split
  · exact Nat.zero_le _
  · split
    · exact Nat.zero_le _
    · split
      · exact Nat.zero_le _
      · show ((numR 18446744073709551615 s).2.2.extract _ _).size ≤ _
        rw [ByteArray.size_extract]; omega
theorem textsN_size : ∀ (n : Nat) (s : ByteArray), (textsN n s).1.length ≤ n ∧ ∀ x ∈ (textsN n s).1, x.size ≤ s.size
  | 0, s => ⟨Nat.le_refl _, fun x hx => by simp [textsN] at hx⟩
  | n + 1, s => by
    have h1 := textR_size 18446744073709551615 s
    have h2 := textR_rest 18446744073709551615 s
    have h3 := textsN_size n (textR 18446744073709551615 s).2.2
    unfold textsN
    split
    · exact ⟨Nat.zero_le _, fun x hx => by simp at hx⟩
    · split
      · exact ⟨Nat.zero_le _, fun x hx => by simp at hx⟩
      · refine ⟨by simp only [List.length_cons]; omega, fun x hx => ?_⟩
        rcases List.mem_cons.1 hx with rfl | hx
        · exact h1
        · have := h3.2 x hx; omega
theorem listR_size (m : Nat) (s : ByteArray) : (listR m s).1.length ≤ m ∧ ∀ x ∈ (listR m s).1, x.size ≤ s.size := by
  have h1 := numR_rest 18446744073709551615 s
  unfold listR
  split
  · exact ⟨Nat.zero_le _, fun x hx => by simp at hx⟩
  · split
    · exact ⟨Nat.zero_le _, fun x hx => by simp at hx⟩
    · have h3 := textsN_size (numR 18446744073709551615 s).1 (numR 18446744073709551615 s).2.2
      exact ⟨by have := h3.1; omega, fun x hx => by have := h3.2 x hx; omega⟩
theorem R2.list_size (r : R2) (m : Nat) : (r.list m).1.length ≤ m ∧ ∀ x ∈ (r.list m).1, x.size ≤ r.s.size := by
  unfold R2.list
  split
  · exact listR_size m r.s
  · exact ⟨Nat.zero_le _, fun x hx => by simp at hx⟩
/-- an own row of texts reads as texts -/
theorem own_rds {W : World} {base c : Nat} {A : Option Addr} {xs : List ByteArray} (h : W.ownsRow base 9 1 (.slice A xs.length c) xs.length (xs.map Value.string)) : RdS W A xs.length xs := by
  refine ⟨rfl, fun hl => ?_⟩
  rcases h.2 with ⟨_, h0⟩ | ⟨g, cap, cur, hv, _, hh, hc, _, hsz, htk⟩
  · have : xs = [] := by simpa using h0
    subst this; simp at hl
  · injection hv with hA _ hcc
    subst hA
    refine ⟨g, 0, rfl, (Array.getElem?_eq_some_iff.1 hh).1, fun i hi => ?_⟩
    rw [cell_of_row W g _ cur _ (0, 0) hh, ← Array.getElem?_toList]
    have h1 : (cur.toList.take (xs.length * 1))[0 + i]? = cur.toList[0 + i]? := List.getElem?_take_of_lt (by omega)
    rw [← h1, htk, Nat.zero_add, List.getElem?_map, List.getD_eq_getElem?_getD, List.getElem?_eq_getElem hi]; rfl

/-- the transactions of bytes, or which one is none, and why -/
def unpackR (s : ByteArray) : List Q4 × Nat × Int := if ((R2.mk s 0).list 1024).2.end' ≠ 0 then ([], 0, ((R2.mk s 0).list 1024).2.end') else eachR 0 ((R2.mk s 0).list 1024).1

set_option maxRecDepth 20000 in
set_option maxHeartbeats 2000000 in
theorem wunpack_any (s : ByteArray) (hs : s.size ≤ 1099511627776) (W : World) :
    Calls Try.prog 9 #[.string s, .func (.func 10) #[] #[]] W fun e w' => (∃ v ps, e = .returned (.tuple #[v, .int .i64 ((unpackR s).2.1 : Int), .int .i64 (unpackR s).2.2]) ∧ TxRow W.heap.size w' v ps ∧ ps.map keyP = (unpackR s).1.map keyQ) ∧ Below W.heap.size W w' := by
  have HT := Lib.hid (fun (R : Nat) (V : World) (h : Lies V R ⟨s, 0⟩) => rlist_any R ⟨s, 0⟩ 1024 (by decide) hs V h)
  have hsz := R2.list_size ⟨s, 0⟩ 1024
  have hu : unpackR s = if ((R2.mk s 0).list 1024).2.end' ≠ 0 then ([], 0, ((R2.mk s 0).list 1024).2.end') else eachR 0 ((R2.mk s 0).list 1024).1 := rfl
  generalize unpackR s = U at *
  generalize (R2.mk s 0).list 1024 = x at *
  obtain ⟨xs, r⟩ := x
  dsimp only at hu HT hsz
  have HU := Lib.hid hu
  have HSz := Lib.hid hsz
  clear hu hsz
  go_enter Try.func9, Try.ntmps9
  go_wp2_with fail
  refine (new_any s _).mono ?_
  rintro _ w1 ⟨rfl, hw⟩
  have hR : Lies w1 W.heap.size ⟨s, 0⟩ := by rw [hw]; exact heap_alloc_new W _
  have HB := Lib.hid (show Below W.heap.size W w1 by rw [hw]; exact (Below.refl _ _).alloc (Nat.le_refl _) _)
  clear hw
  go_wp2_with fail
  refine (HT.out _ _ hR).mono ?_
  rintro _ w2 ⟨⟨v, rfl, hv⟩, hR2, hO⟩
  obtain ⟨A, c, rfl⟩ := own_form hv
  have HB2 := Lib.hid (Only.below HB.out hO (Nat.le_refl _) HB.out.size)
  have HV := Lib.hid hv
  have HE := Lib.hid (end_any W.heap.size r w2 hR2)
  clear hv hR hR2 hO HB HT
  go_wp2_with fail
  refine HE.out.mono ?_
  rintro _ w3 ⟨rfl, hw⟩
  obtain rfl := hw.symm
  clear hw HE
  obtain ⟨e, hee⟩ : ∃ e, e = r.end' := ⟨_, rfl⟩
  rw [← hee]
  have HEe : Hid (r.end' = e) := Lib.hid hee.symm
  clear hee
  by_cases he : e = 0
  · subst he
    have HX : Hid (U = eachR 0 xs) := Lib.hid (by rw [HU.out, HEe.out, if_neg (by simp)])
    clear HU HEe
    have HEa := Lib.hid (each_any A xs.length c xs w2 (own_rds HV.out) (fun i => by
      rw [List.getD_eq_getElem?_getD]
      by_cases hi : i < xs.length
      · rw [List.getElem?_eq_getElem hi]
        have := HSz.out.2 _ (List.getElem_mem hi)
        show xs[i].size ≤ _
        omega
      · rw [List.getElem?_eq_none (by omega)]; exact Nat.zero_le _) (by have := HSz.out.1; omega))
    clear HV HSz
    go_wp2_with fail
    refine HEa.out.mono ?_
    rintro _ w4 ⟨⟨v4, ps, rfl, hrow, hkey⟩, b4⟩
    have HRow := Lib.hid (show TxRow W.heap.size w4 v4 ps from ⟨own_base hrow.row HB2.out.size, fun p hp => ⟨(hrow.own p hp).1, own_base (hrow.own p hp).2 HB2.out.size⟩⟩)
    have HB4 := Lib.hid (HB2.out.trans (b4.mono HB2.out.size))
    have HK := Lib.hid hkey
    obtain ⟨Av, cv, rfl⟩ := own_formN hrow.row
    clear hrow hkey b4 HEa
    go_wp2
    refine bodyPost_ret (results_tmp3 rfl _ _ _) rfl ?_
    exact ⟨⟨_, ps, by rw [HX.out]; rfl, HRow.out, by rw [HX.out]; exact HK.out⟩, HB4.out⟩
  · have he2 : (e == 0) = false := by simpa using he
    have HX : Hid (U = ([], 0, e)) := Lib.hid (by rw [HU.out, HEe.out, if_pos he])
    clear HU HEe HV HSz
    go_wp2
    refine bodyPost_ret (results_tmp3 rfl _ _ _) rfl ?_
    exact ⟨⟨.slice none 0 0, [], by rw [HX.out]; rfl, TxRow.nil _ _, by rw [HX.out]; rfl⟩, HB2.out⟩

set_option maxRecDepth 20000 in
set_option maxHeartbeats 1000000 in
theorem tunpack_any (s : ByteArray) (hs : s.size ≤ 1099511627776) (W : World) :
    Calls Try.prog 5 #[.string s] W fun e w' => (∃ v ps, e = .returned (.tuple #[v, .int .i64 ((unpackR s).2.1 : Int), .int .i64 (unpackR s).2.2]) ∧ TxRow W.heap.size w' v ps ∧ ps.map keyP = (unpackR s).1.map keyQ) ∧ Below W.heap.size W w' := by
  have HU := Lib.hid (fun V => wunpack_any s hs V)
  generalize unpackR s = U at *
  clear hs
  go_enter Try.func5, Try.ntmps5
  go_wp2_with fail
  refine (HU.out _).mono ?_
  rintro _ w4 ⟨⟨v4, ps, rfl, hrow, hkey⟩, b4⟩
  obtain ⟨Av, cv, rfl⟩ := own_formN hrow.row
  have HRow := Lib.hid hrow
  have HB4 := Lib.hid b4
  have HK := Lib.hid hkey
  clear hrow hkey b4 HU
  go_wp2
  refine bodyPost_ret (results_tmp3 rfl _ _ _) rfl ?_
  exact ⟨⟨_, ps, rfl, HRow.out, HK.out⟩, HB4.out⟩
end Go.Proofs.Ytfalmebgjghjeab.Rd
