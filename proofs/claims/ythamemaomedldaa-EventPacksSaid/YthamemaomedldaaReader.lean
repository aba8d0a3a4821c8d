/- A reader: Num, Text, End, Left. -/
import Derived.Test.YthamemaomedldaaReadNum
import Derived.Laws.EntriesVeiled
import Derived.RegionCalls
import Derived.Deep.Cut
import Derived.Deep.QuietTactic
namespace Go.Proofs.Ythamemaomedldaa.Rd
open Go Go.RowKit Num Texts

theorem numR_rest (m : Nat) (s : ByteArray) : (numR m s).2.2.size ≤ s.size := by
  unfold numR
  split
  · exact Nat.le_refl _
  · dsimp only
    split
    · exact Nat.le_refl _
    · split
      · exact Nat.le_refl _
      · split
        · exact Nat.le_refl _
        · show (s.extract _ _).size ≤ _
          rw [ByteArray.size_extract]; omega
theorem textR_rest (m : Nat) (s : ByteArray) : (textR m s).2.2.size ≤ s.size := by
  have := numR_rest 18446744073709551615 s
  unfold textR
  dsimp only
  split
  · exact this
  · split
    · exact this
    · split
      · exact this
      · show ((numR 18446744073709551615 s).2.2.extract _ _).size ≤ _
        rw [ByteArray.size_extract]; omega

set_option maxRecDepth 20000 in
set_option maxHeartbeats 1000000 in
theorem text_any (R : Nat) (r : R2) (m : Nat) (hs : r.s.size ≤ 1099511627776) (W : World) (hR : Lies W R r) :
    Calls Try.prog 56 #[.pointer (some ⟨R, 0, none⟩), .int .u64 (m : Int)] W fun e w' => e = .returned (.tuple #[.string (textR m r.s).1, .int .i64 (textR m r.s).2.1]) ∧ Lies w' R ⟨(textR m r.s).2.2, r.b⟩ ∧ Only R W w' := by
  have hnum := number_any R r 18446744073709551615 (by decide) hs W hR
  have hsz := numR_rest 18446744073709551615 r.s
  obtain ⟨s, b⟩ := r
  have ht : textR m s = (let x := numR 18446744073709551615 s; if x.2.1 ≠ 0 then ((⟨#[]⟩, x.2.1, x.2.2) : ByteArray × Int × ByteArray) else if m < x.1 then (⟨#[]⟩, 4, x.2.2) else if x.2.2.size < x.1 then (⟨#[]⟩, 2, x.2.2) else (x.2.2.extract 0 x.1, 0, x.2.2.extract x.1 x.2.2.size)) := rfl
  have hv := numR_val 18446744073709551615 s
  dsimp only at hnum hsz ht hs ⊢
  generalize numR 18446744073709551615 s = x at *
  obtain ⟨n, e, s1⟩ := x
  dsimp only at hnum hsz ht hv
  have HNum := Lib.hid hnum
  have HT := Lib.hid ht
  clear hnum ht hR
  have hs1 : (s1.size : Int) ≤ 1099511627776 := by omega
  have hvi : (n : Int) ≤ 18446744073709551615 := by omega
  go_enter Try.func56, Try.ntmps56
  go_wp2_with fail
  refine HNum.out.mono ?_
  rintro e1 w1 ⟨rfl, hR1, hO1⟩
  have c0 : w1.cell? ⟨R, 0, none⟩ = some (.string s1) := cell_at hR1 0
  have f0 := free_at hR1 0
  have HR1 := Lib.hid hR1
  have HO1 := Lib.hid hO1
  clear hR1 hO1 HNum
  by_cases he : e = 0
  · subst he
    by_cases hmn : m < n
    · have hmi : (m : Int) < (n : Int) := by omega
      have HT2 : Hid (textR m s = (⟨#[]⟩, 4, s1)) := Lib.hid (by rw [HT.out, if_neg (by simp), if_pos hmn])
      clear hmn
      go_wp2
      go_ret2
      exact ⟨by rw [HT2.out]; rfl, by rw [HT2.out]; exact HR1.out, HO1.out⟩
    · have hmi : ¬ (m : Int) < (n : Int) := by omega
      by_cases hl : s1.size < n
      · have hli : (s1.size : Int) < (n : Int) := by omega
        have HT2 : Hid (textR m s = (⟨#[]⟩, 2, s1)) := Lib.hid (by rw [HT.out, if_neg (by simp), if_neg hmn, if_pos hl])
        clear hmn hl
        go_wp2
        go_ret2
        exact ⟨by rw [HT2.out]; rfl, by rw [HT2.out]; exact HR1.out, HO1.out⟩
      · have hli : ¬ (s1.size : Int) < (n : Int) := by omega
        have hle : (n : Int) ≤ (s1.size : Int) := by omega
        have hle2 : n ≤ s1.size := by omega
        have HT2 : Hid (textR m s = (s1.extract 0 n, 0, s1.extract n s1.size)) := Lib.hid (by rw [HT.out, if_neg (by simp), if_neg hmn, if_neg hl])
        clear hmn hl
        go_wp2
        go_ret2
        exact ⟨by rw [HT2.out]; rfl, by rw [HT2.out]; exact set_at HR1.out 0 _, HO1.out.set 0 _⟩
  · have he2 : (e == 0) = false := by simpa using he
    have HT2 : Hid (textR m s = (⟨#[]⟩, e, s1)) := Lib.hid (by rw [HT.out, if_pos he])
    go_wp2
    go_ret2
    exact ⟨by rw [HT2.out]; rfl, by rw [HT2.out]; exact HR1.out, HO1.out⟩

/-- the closure that Num gives read: captured are the boxes of the reader, of the bound and of the result -/
def cloN (A : Nat) : Value := .func (.func 52) #[] #[.pointer (some ⟨A, 0, none⟩), .pointer (some ⟨A + 1, 0, none⟩), .pointer (some ⟨A + 1 + 1, 0, none⟩)]

set_option maxRecDepth 20000 in
set_option maxHeartbeats 1000000 in
theorem clon_any (R A : Nat) (r : R2) (m : Nat) (hm : m < 18446744073709551616) (hs : r.s.size ≤ 1099511627776) (W : World) (hR : Lies W R r) (hlt : R < A)
    (hA : W.heap[A]? = some (.cells #[.pointer (some ⟨R, 0, none⟩)] 60 (0, 0))) (hB : W.heap[A + 1]? = some (.cells #[.int .u64 (m : Int)] 26 (0, 0))) (hC : W.heap[A + 1 + 1]? = some (.cells #[.int .u64 0] 26 (0, 0))) :
    Calls Try.prog 52 #[.pointer (some ⟨A, 0, none⟩), .pointer (some ⟨A + 1, 0, none⟩), .pointer (some ⟨A + 1 + 1, 0, none⟩)] W
      fun e w' => e = .returned (.int .i64 (numR m r.s).2.1) ∧ ∃ w1, w' = w1.setCell ⟨A + 1 + 1, 0, none⟩ (.int .u64 ((numR m r.s).1 : Int)) ∧ Lies w1 R ⟨(numR m r.s).2.2, r.b⟩ ∧ Only R W w1 := by
  have HN := Lib.hid (number_any R r m hm hs W hR)
  have a0 := cell_at hA 0
  have b0 := cell_at hB 0
  have hzC := (Array.getElem?_eq_some_iff.1 hC).1
  have HC := Lib.hid hC
  have HR := Lib.hid hR
  have a1 : W.cell? ⟨A, 0, none⟩ = some (.pointer (some ⟨R, 0, none⟩)) := a0
  have b1 : W.cell? ⟨A + 1, 0, none⟩ = some (.int .u64 (m : Int)) := b0
  clear a0 b0 hA hB hC hR
  go_enter Try.func52, Try.ntmps52
  go_wp2_with fail
  refine HN.out.mono ?_
  rintro e w1 ⟨rfl, hR1, hO⟩
  have hC1 := (hO.block _ hzC (by omega)).trans HC.out
  have c1 : w1.cell? ⟨A + 1 + 1, 0, none⟩ = some (.int .u64 0) := cell_at hC1 0
  have f1 := free_at hC1 0
  have HR1 := Lib.hid hR1
  have HO := Lib.hid hO
  clear hR1 hO hC1 HC HN
  go_wp2
  go_ret
  exact ⟨rfl, w1, rfl, HR1.out, HO.out⟩

set_option maxRecDepth 20000 in
set_option maxHeartbeats 1000000 in
theorem readn_any {w0 : World} (R A : Nat) (r : R2) (m : Nat) (hm : m < 18446744073709551616) (hs : r.s.size ≤ 1099511627776) (W : World) (hR : Lies W R r) (hlt : R < A) (hw : w0.heap.size ≤ A) (h0 : Only R w0 W)
    (hA : W.heap[A]? = some (.cells #[.pointer (some ⟨R, 0, none⟩)] 60 (0, 0))) (hB : W.heap[A + 1]? = some (.cells #[.int .u64 (m : Int)] 26 (0, 0))) (hC : W.heap[A + 1 + 1]? = some (.cells #[.int .u64 0] 26 (0, 0))) :
    Calls Try.prog 48 #[.pointer (some ⟨R, 0, none⟩), cloN A] W
      fun e w' => e = .returned (.tuple #[]) ∧ Lies w' R (r.num m).2 ∧ w'.heap[A + 1 + 1]? = some (.cells #[.int .u64 ((r.num m).1 : Int)] 26 (0, 0)) ∧ Only R w0 w' := by
  have HN := Lib.hid (clon_any R A r m hm hs W hR hlt hA hB hC)
  have HC := Lib.hid hC
  have HR := Lib.hid hR
  have H0 := Lib.hid h0
  have hzC := (Array.getElem?_eq_some_iff.1 hC).1
  obtain ⟨s, b⟩ := r
  have c0 : W.cell? ⟨R, 0, none⟩ = some (.string s) := cell_at hR 0
  have c1 : W.cell? ⟨R, 1, none⟩ = some (.int .i64 b) := cell_at hR 1
  clear hA hB hC hR h0
  unfold cloN
  by_cases hb : b = 0
  · subst hb
    have hnum : (⟨s, 0⟩ : R2).num m = ((numR m s).1, R2.after (numR m s).2.1 (numR m s).2.2) := by unfold R2.num; rw [if_pos rfl]
    dsimp only at HN
    generalize numR m s = x at *
    obtain ⟨n, e, s1⟩ := x
    dsimp only at HN hnum
    have HX := Lib.hid hnum
    clear hnum
    go_enter Try.func48, Try.ntmps48
    go_wp2_with fail
    refine HN.out.mono ?_
    rintro e1 w1 ⟨rfl, w2, rfl, hR2, hO2⟩
    clear c0 c1
    have hC2 := (hO2.block _ hzC (by omega)).trans HC.out
    have hne : R ≠ A + 1 + 1 := by omega
    have hR3 := set_off (i := 0) hR2 hne (.int .u64 (n : Int))
    have hC3 := set_at hC2 0 (.int .u64 (n : Int))
    have hO3 : Only R w0 (w2.setCell ⟨A + 1 + 1, 0, none⟩ (.int .u64 (n : Int))) := (H0.out.trans hO2).setNew (by omega) _ _
    obtain ⟨w3, hw3⟩ : ∃ w3, w3 = w2.setCell ⟨A + 1 + 1, 0, none⟩ (.int .u64 (n : Int)) := ⟨_, rfl⟩
    rw [← hw3] at hR3 hC3 hO3 ⊢
    have c1 : w3.cell? ⟨R, 1, none⟩ = some (.int .i64 0) := cell_at hR3 1
    have c0 : w3.cell? ⟨R, 0, none⟩ = some (.string s1) := cell_at hR3 0
    have f1 := free_at hR3 1
    have f0 := free_at hR3 0
    have HR3 := Lib.hid hR3
    have HC3 := Lib.hid (show w3.heap[A + 1 + 1]? = some (.cells #[.int .u64 (n : Int)] 26 (0, 0)) from hC3)
    have HO3 := Lib.hid hO3
    clear hw3 hR3 hC3 hO3 hC2 hR2 hO2 HC HR HN
    by_cases he : e = 0
    · subst he
      go_wp2
      refine bodyPost_end (results_none rfl _ _ _) rfl ?_
      exact ⟨rfl, by rw [HX.out]; exact set_at HR3.out 1 _, by rw [HX.out]; exact set_off HC3.out (by omega) _, HO3.out.set 1 _⟩
    · have he2 : (e == 0) = false := by simpa using he
      go_wp2
      refine bodyPost_end (results_none rfl _ _ _) rfl ?_
      refine ⟨rfl, ?_, ?_, (HO3.out.set 1 _).set 0 _⟩
      · rw [HX.out, show R2.after e s1 = ⟨⟨#[]⟩, e⟩ by unfold R2.after; rw [if_neg he]]
        exact set_at (set_at HR3.out 1 _) 0 _
      · rw [HX.out]
        exact set_off (set_off HC3.out (by omega) _) (by omega) _
  · have hb2 : (b == 0) = false := by simpa using hb
    have hnum : (⟨s, b⟩ : R2).num m = (0, ⟨s, b⟩) := by unfold R2.num; rw [if_neg hb]
    have HX := Lib.hid hnum
    clear hnum
    go_enter Try.func48, Try.ntmps48
    go_wp2
    refine bodyPost_ret (results_none rfl _ _ _) rfl ?_
    exact ⟨rfl, by rw [HX.out]; exact HR.out, by rw [HX.out]; exact HC.out, H0.out⟩

set_option maxRecDepth 20000 in
set_option maxHeartbeats 1000000 in
/-- Num of a reader -/
theorem rnum_any (R : Nat) (r : R2) (m : Nat) (hm : m < 18446744073709551616) (hs : r.s.size ≤ 1099511627776) (W : World) (hR : Lies W R r) :
    Calls Try.prog 36 #[.pointer (some ⟨R, 0, none⟩), .int .u64 (m : Int)] W
      fun e w' => e = .returned (.int .u64 ((r.num m).1 : Int)) ∧ Lies w' R (r.num m).2 ∧ Only R W w' := by
  have hlt := (Array.getElem?_eq_some_iff.1 hR).1
  obtain ⟨W3, hW3⟩ : ∃ W3, W3 = ((W.alloc (.cells #[.pointer (some ⟨R, 0, none⟩)] 60)).alloc (.cells #[.int .u64 (m : Int)] 26)).alloc (.cells #[.int .u64 0] 26) := ⟨_, rfl⟩
  have hA : W3.heap[W.heap.size]? = some (.cells #[.pointer (some ⟨R, 0, none⟩)] 60 (0, 0)) := by
    rw [hW3, Below.heap_alloc _ _ _ (by simp; omega), Below.heap_alloc _ _ _ (by simp)]; exact heap_alloc_new _ _
  have hB : W3.heap[W.heap.size + 1]? = some (.cells #[.int .u64 (m : Int)] 26 (0, 0)) := by
    rw [hW3, Below.heap_alloc _ _ _ (by simp)]
    have := heap_alloc_new (W.alloc (.cells #[.pointer (some ⟨R, 0, none⟩)] 60)) (.cells #[.int .u64 (m : Int)] 26)
    simpa using this
  have hC : W3.heap[W.heap.size + 1 + 1]? = some (.cells #[.int .u64 0] 26 (0, 0)) := by
    have := heap_alloc_new ((W.alloc (.cells #[.pointer (some ⟨R, 0, none⟩)] 60)).alloc (.cells #[.int .u64 (m : Int)] 26)) (.cells #[.int .u64 0] 26)
    rw [hW3]
    simpa using this
  have hO : Only R W W3 := by rw [hW3]; exact (((Only.refl R W).alloc _).alloc _).alloc _
  have hR3 : Lies W3 R r := by
    rw [hW3]; unfold Lies
    rw [Below.heap_alloc _ _ _ (by simp; omega), Below.heap_alloc _ _ _ (by simp; omega), Below.heap_alloc _ _ _ hlt]; exact hR
  have HN := Lib.hid (readn_any (w0 := W) R W.heap.size r m hm hs W3 hR3 hlt (Nat.le_refl _) hO hA hB hC)
  have ca : W3.cell? ⟨W.heap.size, 0, none⟩ = some (.pointer (some ⟨R, 0, none⟩)) := cell_at hA 0
  have CA := Lib.hid ca
  clear hA hB hC hO hR3 ca hR
  unfold cloN at HN
  go_enter Try.func36, Try.ntmps36
  go_upto_region 1 with fail
  rw [← hW3]
  have ca := CA.out
  clear hW3 CA
  go_wp2_with fail
  refine HN.out.mono ?_
  rintro e w1 ⟨rfl, hR1, hC1, hO1⟩
  have c1 : w1.cell? ⟨W.heap.size + 1 + 1, 0, none⟩ = some (.int .u64 ((r.num m).1 : Int)) := cell_at hC1 0
  have f1 := free_at hC1 0
  have HR1 := Lib.hid hR1
  have HC1 := Lib.hid hC1
  have HO1 := Lib.hid hO1
  clear hR1 hC1 hO1 ca HN
  go_wp2_with fail
  have c2 : (w1.setCell ⟨W.heap.size + 1 + 1, 0, none⟩ (.int .u64 ((r.num m).1 : Int))).cell? ⟨W.heap.size + 1 + 1, 0, none⟩ = some (.int .u64 ((r.num m).1 : Int)) := cell_at (set_at HC1.out 0 _) 0
  refine bodyPost_ret (v := .int .u64 ((r.num m).1 : Int)) (by simp [results, Try.results36, go_sem, c2]) rfl ?_
  exact ⟨rfl, set_off HR1.out (by omega) _, HO1.out.setNew (by omega) _ _⟩
end Go.Proofs.Ythamemaomedldaa.Rd
