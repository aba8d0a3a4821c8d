/- wire.Pack of transactions, txn.Pack: the bytes of a batch. -/
import Derived.Test.YtfalmebgjghjeaaTxnPut
import Derived.Test.YtfalmebgjghjeaaSameAll
import Derived.Test.YtfalmebgjghjeaaDigitRef
import Derived.Test.YtfalmebgjghjeaaReadList
import Derived.Test.YtfalmebgjghjeaaTxnUnpack
namespace Go.Proofs.Ytfalmebgjghjeaa.Msg
open Go Go.RowKit Num Texts
open _root_.Go.Proofs.Ytfalmebgjghjeaa.Rd (infoS news1 own_rds)

def tq (q : T4) : Bool := txright q.side q.acc q.ms
def tbq (q : T4) : ByteArray := tB q.side q.acc q.n q.ms
def allR (qs : List T4) : Bool := qs.all tq
def packS (qs : List T4) : ByteArray := if allR qs then ⟨(listL (qs.map tbq)).toArray⟩ else ⟨#[]⟩
theorem tbq_size (q : T4) (h : tq q = true) : (tbq q).size ≤ 1600 := by
  obtain ⟨-, -, -, q4, q5⟩ := txright_parts (show txright q.side q.acc q.ms = true from h)
  have h1 := kS_size q.side; have h2 := kS_size q.acc; have h3 := kS_size q.n; have h4 := kS_size (q.ms.length : Int)
  have h5 := mL_len q.ms q5
  have h6 : (mB q.ms).size = (mL q.ms).length := rfl
  rw [tbq, tB]
  simp only [ByteArray.size_append]
  omega
theorem textsL_len (B : Nat) (hB : B ≤ 1000000) : ∀ (ss : List ByteArray), (∀ x ∈ ss, x.size ≤ B) → (textsL ss).length ≤ ss.length * (B + 9)
  | [], _ => by simp [textsL]
  | s :: ss, h => by
    have h1 := textsL_len B hB ss (fun x hx => h x (by simp [hx]))
    have h2 := h s (by simp)
    have h3 := numS_size' s.size (by omega)
    have e : (textsL (s :: ss)).length = (numS s.size).size + s.size + (textsL ss).length := by
      show ((textL s) ++ textsL ss).length = _
      unfold textL
      simp only [List.length_append]
      have e1 : (numS s.size).data.toList.length = (numS s.size).size := by simp
      have e2 : s.data.toList.length = s.size := by simp
      omega
    rw [e, List.length_cons, Nat.succ_mul]
    omega

set_option maxRecDepth 20000 in
set_option maxHeartbeats 2000000 in
theorem wpack_any (A : Option Addr) (n c : Nat) (qs : List T4) (W : World) (hr : RdX W A n qs) (hq : ∀ q ∈ qs, Rd W q.A q.len q.ms ∧ q.len ≤ 9223372036854775807 ∧ (0 ≤ q.n ∧ q.n < 18446744073709551616) ∧ ∀ m ∈ q.ms, m.wf) (hn : n ≤ 1024) :
    Calls Try.prog 15 #[.slice A n c, .func (.func 12) #[] #[]] W fun e w' => e = .returned (.tuple #[.string (packS qs), .int .i64 (if allR qs then 0 else 1)]) ∧ Below W.heap.size W w' := by
  obtain ⟨i0, hi1, hy0, hy1, hy2⟩ := info_parts infoS
  have HI := Lib.hid (And.intro hi1 (And.intro hy0 (And.intro hy1 hy2)))
  have HR := Lib.hid hr
  have HQ := Lib.hid hq
  have hni : ¬ (1024 : Int) < (n : Int) := by omega
  obtain ⟨S, hS⟩ : ∃ S, S = packS qs := ⟨_, rfl⟩
  obtain ⟨E, hE⟩ : ∃ E : Int, E = if allR qs then 0 else 1 := ⟨_, rfl⟩
  rw [← hS, ← hE]
  have HS := Lib.hid (And.intro hS hE)
  clear hr hq hi1 hy0 hy1 hy2 hS hE
  go_enter Try.func15, Try.ntmps15
  go_wp2
  go_loopw [6, 16] (fun l i wr => ∃ k : Nat, i = .int .i64 (k : Int) ∧ k ≤ n ∧ Hid (∀ q ∈ qs.take k, tq q = true) ∧ wr.ownsRow W.heap.size 9 1 l k (((qs.take k).map tbq).map Value.string) ∧ Below W.heap.size W wr) (fun _ i _ => n - (intOf i).toNat)
  case atStart => exact ⟨0, rfl, Nat.zero_le _, Lib.hid (fun q hq => by simp at hq), World.ownsRow_nil _ _ _ _, Below.refl _ _⟩
  case round =>
    obtain ⟨k, rfl, hk, hG, hown, hB⟩ := hrel
    obtain ⟨Al, cl, rfl⟩ := own_form hown
    have HO := Lib.hid hown
    have HB := Lib.hid hB
    clear hown hB
    by_cases hlt : k < n
    · have hkq : k < qs.length := by have := HR.out.1; omega
      obtain ⟨b, off, hAe, hbl, a0, a1, a2, a3⟩ := HR.out.at hkq
      subst hAe
      have hqk := HQ.out _ (List.getElem_mem hkq)
      have htk : qs.take (k + 1) = qs.take k ++ [qs[k]] := List.take_succ_eq_append_getElem hkq
      have hmem : qs[k] ∈ qs := List.getElem_mem hkq
      generalize qs[k] = q at a0 a1 a2 a3 hqk htk hmem
      obtain ⟨qs1, qa, qn, qA, ql, qc, qm⟩ := q
      dsimp only at a0 a1 a2 a3 hqk
      have c0 := (HB.out.cell (p := ⟨b, off + k * 4, none⟩) hbl).trans a0
      have c1 := (HB.out.cell (p := ⟨b, off + k * 4 + 1, none⟩) hbl).trans a1
      have c2 := (HB.out.cell (p := ⟨b, off + k * 4 + 2, none⟩) hbl).trans a2
      have c3 := (HB.out.cell (p := ⟨b, off + k * 4 + 3, none⟩) hbl).trans a3
      have HT := Lib.hid htk
      have HM := Lib.hid hmem
      have HQk := Lib.hid hqk
      have hi0 : (0 : Int) ≤ (k : Int) := by omega
      have hi2 : (k : Int) < (n : Int) := by omega
      have hi3 : (k : Int) ≤ 1024 := by omega
      clear a0 a1 a2 a3 hqk htk hmem
      go_upto_region 7 with fail
      obtain ⟨W3, hW3⟩ : ∃ X, X = wr.alloc (.cells #[.int .i64 qs1, .int .i64 qa, .int .u64 qn, .slice qA ql qc] 29) := ⟨_, rfl⟩
      rw [← hW3]
      have hb3 : Below wr.heap.size wr W3 := by rw [hW3]; exact (Below.refl _ _).alloc (Nat.le_refl _) _
      have hQ := heap_alloc_new wr (.cells #[.int .i64 qs1, .int .i64 qa, .int .u64 qn, .slice qA ql qc] 29)
      rw [← hW3] at hQ
      have HO3 := Lib.hid (own_below HO.out hb3)
      have HB3 := Lib.hid (HB.out.trans (hb3.mono HB.out.size))
      obtain ⟨Q, hQe⟩ : ∃ Q, Q = wr.heap.size := ⟨_, rfl⟩
      rw [← hQe] at hQ ⊢
      obtain ⟨x0, x1, x2, x3⟩ : _ ∧ _ ∧ _ ∧ _ := ⟨cell_of_row W3 _ 0 _ _ (0, 0) hQ, cell_of_row W3 _ 1 _ _ (0, 0) hQ, cell_of_row W3 _ 2 _ _ (0, 0) hQ, cell_of_row W3 _ 3 _ _ (0, 0) hQ⟩
      clear hW3 hb3 hQ hQe HO HB c0 c1 c2 c3
      by_cases hgd : txright qs1 qa qm = true
      · have hpt := txput_yes ⟨qs1, qa, qn, qA, ql, qc, qm⟩ W3 (HQk.out.1.below HB3.out) HQk.out.2.2.1 HQk.out.2.2.2 hgd
        have htb : tB qs1 qa qn qm = tbq ⟨qs1, qa, qn, qA, ql, qc, qm⟩ := rfl
        dsimp only at hpt
        generalize tB qs1 qa qn qm = D at hpt htb
        have HPt := Lib.hid hpt
        have HTb := Lib.hid htb
        clear hpt htb
        go_wp2_with fail
        refine HPt.out.mono ?_
        rintro _ w4 ⟨rfl, b4⟩
        have HO4 := Lib.hid (own_below HO3.out b4)
        have HB4 := Lib.hid (HB3.out.trans (b4.mono HB3.out.size))
        have hz4 : W.heap.size ≤ w4.heap.size := HB4.out.size
        clear b4 x0 x1 x2 x3 HO3 HB3 HPt
        go_wp2_with (at_builtin; refine wpList_append_own _ rfl _ _ 24 rfl W.heap.size 9 i0 (.string ⟨#[]⟩) 1 16 Try.underlying24 HI.out.1 HI.out.2.1 HI.out.2.2.1 HI.out.2.2.2 rfl (by decide) _ _ _ rfl (HO4.out.alloc _) ⟨w4.heap.size, 0, none⟩ 1 1 [.string D] rfl rfl (news1 w4 _ _) (one_one rfl) (by unfold maxLen; omega) (by omega) (by simp; omega) ?_; intro v5 w5 hown5 hg5 _)
        have hB5 := below_push HB4.out hz4 HO4.out hg5
        refine ⟨⟨k + 1, by go_num, by omega, Lib.hid (fun q hq => ?_), ?_, hB5⟩, by simp [intOf]; omega⟩
        · rw [HT.out] at hq
          rcases List.mem_append.1 hq with hq | hq
          · exact hG.out q hq
          · simp at hq; subst hq; exact hgd
        · rw [HT.out, List.map_append, List.map_append]
          have e : ([(⟨qs1, qa, qn, qA, ql, qc, qm⟩ : T4)].map tbq).map Value.string = [.string D] := by rw [HTb.out]; rfl
          rw [e]
          exact hown5
      · have hgf : txright qs1 qa qm = false := by simpa using hgd
        have hpt := txput_no ⟨qs1, qa, qn, qA, ql, qc, qm⟩ W3 (HQk.out.1.below HB3.out) HQk.out.2.1 hgf
        have hall : allR qs = false := by
          cases ha : allR qs with
          | false => rfl
          | true => exact absurd ((List.all_eq_true.1 ha) _ HM.out) (by show ¬ txright qs1 qa qm = true; exact hgd)
        have HX : Hid (S = ⟨#[]⟩ ∧ E = 1) := Lib.hid (by rw [HS.out.1, HS.out.2, packS, hall]; exact ⟨rfl, rfl⟩)
        dsimp only at hpt
        have HPt := Lib.hid hpt
        clear hpt hall HS hgd hgf
        go_wp2_with fail
        refine HPt.out.mono ?_
        rintro _ w4 ⟨rfl, b4⟩
        have HB4 := Lib.hid (HB3.out.trans (b4.mono HB3.out.size))
        clear b4 x0 x1 x2 x3 HO3 HB3 HPt
        go_wp2
        go_ret2
        exact ⟨by rw [HX.out.1, HX.out.2]; rfl, HB4.out⟩
    · obtain rfl : k = n := by omega
      have hlen := HR.out.1
      have htake : qs.take k = qs := List.take_of_length_le (by omega)
      have hall : allR qs = true := List.all_eq_true.2 (fun q hq => hG.out q (by rw [htake]; exact hq))
      have HX : Hid (S = ⟨(listL (qs.map tbq)).toArray⟩ ∧ E = 0) := Lib.hid (by rw [HS.out.1, HS.out.2, packS, hall]; exact ⟨rfl, rfl⟩)
      have hszs : ∀ x ∈ qs.map tbq, x.size ≤ 1600 := fun x hx => by
        obtain ⟨q, hq, rfl⟩ := List.mem_map.1 hx
        exact tbq_size q ((List.all_eq_true.1 hall) q hq)
      have hrow := HO.out
      rw [htake] at hrow
      have hk2 : k = (qs.map tbq).length := by simp [hlen]
      have hrd : RdS wr Al (qs.map tbq).length (qs.map tbq) := by
        have h9 := hrow
        rw [hk2] at h9
        exact own_rds h9
      have hl := list_any Al (qs.map tbq).length cl (qs.map tbq) wr hrd (by omega) (fun i => by
        rw [List.getD_eq_getElem?_getD]
        by_cases hi : i < (qs.map tbq).length
        · rw [List.getElem?_eq_getElem hi]
          have := hszs _ (List.getElem_mem hi)
          show ((qs.map tbq)[i]).size ≤ _
          omega
        · rw [List.getElem?_eq_none (by omega)]; exact Nat.zero_le _) (by
        have := textsL_len 1600 (by omega) (qs.map tbq) hszs
        have h8 : (qs.map tbq).length * (1600 + 9) ≤ 1024 * 1609 := Nat.mul_le_mul (by omega) (by omega)
        omega)
      rw [← hk2] at hl
      generalize (⟨(listL (qs.map tbq)).toArray⟩ : ByteArray) = D at hl HX
      have HLi := Lib.hid hl
      clear hl hrd hrow hszs hall htake hlen hk2 HS hG HO
      go_wp2_with fail
      refine HLi.out.mono ?_
      rintro _ w4 ⟨rfl, b4⟩
      have HB4 := Lib.hid (HB.out.trans (b4.mono HB.out.size))
      clear b4 HLi
      go_wp2
      go_ret2
      exact ⟨by rw [HX.out.1, HX.out.2]; rfl, HB4.out⟩
end Go.Proofs.Ytfalmebgjghjeaa.Msg
