/- The page's reader: text, many, Num, Text, End. -/
import Derived.Test.YthamemaomedldaaPgNumber
import Derived.Test.YthamemaomedldaaReader
namespace Go.Proofs.Ythamemaomedldaa.Rd
open Go Go.RowKit Num Texts

theorem numR_MX (m : Nat) (s : ByteArray) : numR m s = if (numR MX s).2.1 ≠ 0 then ((0, (numR MX s).2.1, s) : Nat × Int × ByteArray) else if m < (numR MX s).1 then (0, 5, s) else numR MX s := by
  unfold numR
  split
  · rfl
  · dsimp only
    split
    · rfl
    · split
      · rfl
      · rename_i h8 _
        have hv : ¬ MX < val ((s.data.toList.drop 1).take (s.data.toList.getD 0 0).toNat) := by
          have : val ((s.data.toList.drop 1).take (s.data.toList.getD 0 0).toNat) < 18446744073709551616 := Nat.lt_of_lt_of_le (val_lt _ 8 (by rw [List.length_take]; omega)) (by decide)
          show ¬ 18446744073709551615 < _
          omega
        rw [if_neg hv]
        rfl
theorem pnumber_any (R : Nat) (S : ByteArray) (r : R2) (hb : r.b = 0) (hs : S.size ≤ 1099511627776) (W : World) (hR : PLies W R S r) :
    Calls Try.prog 39 #[.pointer (some ⟨R, 0, none⟩)] W fun e w' => e = .returned (.int .u64 ((numR MX r.s).1 : Int)) ∧ PLies w' R S (R2.after (numR MX r.s).2.1 (numR MX r.s).2.2) ∧ Only R W w' := by
  obtain ⟨a, h1, h2, h3⟩ := hR
  rw [h2]
  rw [hb] at h3
  exact pnumber_at R S a h1 hs W h3
set_option maxRecDepth 20000 in
theorem many_any (m : Nat) (hm : m < 9223372036854775808) (W : World) :
    Calls Try.prog 40 #[.int .i64 (m : Int)] W fun e w' => e = .returned (.int .u64 (m : Int)) ∧ w' = W := by
  have h0 : ¬ (m : Int) < 0 := by omega
  have h1 : (m : Int) < 9223372036854775808 := by omega
  clear hm
  go_enter Try.func40, Try.ntmps40
  go_wp2
  go_ret
  exact ⟨rfl, rfl⟩

theorem ext_pre (S : ByteArray) (a n : Nat) : (S.extract a S.size).extract 0 n = S.extract a (a + n) := by
  apply ByteArray.ext
  apply Array.toList_inj.1
  rw [Lib.extract_data, ext_of, Lib.extract_data, List.drop_zero]
  congr 1
  omega

set_option maxRecDepth 20000 in
set_option maxHeartbeats 1000000 in
theorem pnum_any (R : Nat) (S : ByteArray) (r : R2) (m : Nat) (hs : S.size ≤ 1099511627776) (W : World) (hR : PLies W R S r) :
    Calls Try.prog 43 #[.pointer (some ⟨R, 0, none⟩), .int .u64 (m : Int)] W fun e w' => e = .returned (.int .u64 ((r.num m).1 : Int)) ∧ PLies w' R S (r.num m).2 ∧ Only R W w' := by
  obtain ⟨s, b⟩ := r
  by_cases hb : b = 0
  · subst hb
    have hnum : (⟨s, 0⟩ : R2).num m = ((numR m s).1, R2.after (numR m s).2.1 (numR m s).2.2) := by unfold R2.num; rw [if_pos rfl]
    have hpn := pnumber_any R S ⟨s, 0⟩ rfl hs W hR
    have hmx := numR_MX m s
    have hv := numR_val MX s
    dsimp only at hpn
    obtain ⟨a, ha, hse, hpl⟩ := hR
    have c2 : W.cell? ⟨R, 2, none⟩ = some (.int .i64 0) := cell_at hpl 2
    rw [hnum]
    generalize numR MX s = x at *
    obtain ⟨n, e, s1⟩ := x
    dsimp only at hpn hmx hv
    have HX := Lib.hid hmx
    have HP := Lib.hid hpn
    have hvi : (n : Int) ≤ 18446744073709551615 := by unfold MX at hv; omega
    clear hmx hpn hnum hpl hv
    go_enter Try.func43, Try.ntmps43
    go_wp2_with fail
    refine HP.out.mono ?_
    rintro _ w1 ⟨rfl, hR1, hO⟩
    have HO := Lib.hid hO
    clear hO c2
    by_cases he : e = 0
    · subst he
      obtain ⟨a1, ha1, hse1, hpl1⟩ := hR1
      have c2 : w1.cell? ⟨R, 2, none⟩ = some (.int .i64 0) := cell_at hpl1 2
      by_cases hmn : m < n
      · have hmi : (m : Int) < (n : Int) := by omega
        have HN : Hid (numR m s = (0, 5, s)) := Lib.hid (by rw [HX.out, if_neg (by simp), if_pos hmn])
        have HPl := Lib.hid hpl1
        clear hmn hpl1
        go_wp2_with fail
        refine (pfail_any R S a1 0 5 hs w1 HPl.out).mono ?_
        rintro _ w2 ⟨rfl, hR2, hO2⟩
        have HR2 := Lib.hid hR2
        have HO2 := Lib.hid (HO.out.trans hO2)
        obtain ⟨a2, ha2, hse2, hpl2⟩ := hR2
        have d2 : w2.cell? ⟨R, 2, none⟩ = some (.int .i64 5) := cell_at hpl2 2
        clear hO2 hpl2 c2
        go_wp2
        go_ret
        exact ⟨by rw [HN.out]; rfl, by rw [HN.out]; exact HR2.out, HO2.out⟩
      · have hmi : ¬ (m : Int) < (n : Int) := by omega
        have HN : Hid (numR m s = (n, 0, s1)) := Lib.hid (by rw [HX.out, if_neg (by simp), if_neg hmn])
        have HPl := Lib.hid hpl1
        clear hmn hpl1
        go_wp2
        go_ret
        exact ⟨by rw [HN.out]; rfl, by rw [HN.out]; exact ⟨a1, ha1, hse1, HPl.out⟩, HO.out⟩
    · have HN : Hid (numR m s = (0, e, s)) := Lib.hid (by rw [HX.out, if_pos he])
      have he2 : (e == 0) = false := by simpa using he
      have HR1 := Lib.hid hR1
      obtain ⟨a1, ha1, hse1, hpl1⟩ := hR1
      rw [after_bad e s1 he] at hpl1
      have c2 : w1.cell? ⟨R, 2, none⟩ = some (.int .i64 e) := cell_at hpl1 2
      clear hpl1 hse1
      go_wp2
      go_ret
      exact ⟨by rw [HN.out]; rfl, by rw [HN.out]; have := HR1.out; rw [after_bad e s1 he] at this; rw [after_bad e s he]; exact this, HO.out⟩
  · have hnum : (⟨s, b⟩ : R2).num m = (0, ⟨s, b⟩) := by unfold R2.num; rw [if_neg hb]
    rw [hnum]
    have hb2 : (b == 0) = false := by simpa using hb
    have HR := Lib.hid hR
    obtain ⟨a, ha, hse, hpl⟩ := hR
    have c2 : W.cell? ⟨R, 2, none⟩ = some (.int .i64 b) := cell_at hpl 2
    clear hpl hnum hse ha
    go_enter Try.func43, Try.ntmps43
    go_wp2
    go_ret
    exact ⟨rfl, HR.out, Only.refl _ _⟩

set_option maxRecDepth 20000 in
set_option maxHeartbeats 2000000 in
theorem ptext_in (R : Nat) (S s : ByteArray) (m : Nat) (hm : m < 18446744073709551616) (hs : S.size ≤ 1099511627776) (W : World) (hR : PLies W R S ⟨s, 0⟩) :
    Calls Try.prog 42 #[.pointer (some ⟨R, 0, none⟩), .int .u64 (m : Int)] W fun e w' => e = .returned (.string (textR m s).1) ∧ PLies w' R S (R2.after (textR m s).2.1 (textR m s).2.2) ∧ Only R W w' := by
  have hpn := pnumber_any R S ⟨s, 0⟩ rfl hs W hR
  have hv := numR_val MX s
  have ht : textR m s = (let x := numR MX s; if x.2.1 ≠ 0 then ((⟨#[]⟩, x.2.1, x.2.2) : ByteArray × Int × ByteArray) else if m < x.1 then (⟨#[]⟩, 4, x.2.2) else if x.2.2.size < x.1 then (⟨#[]⟩, 2, x.2.2) else (x.2.2.extract 0 x.1, 0, x.2.2.extract x.1 x.2.2.size)) := rfl
  dsimp only at hpn
  obtain ⟨T, hT⟩ : ∃ T, T = textR m s := ⟨_, rfl⟩
  rw [← hT] at ht ⊢
  generalize numR MX s = x at *
  obtain ⟨n, e, s1⟩ := x
  dsimp only at hpn ht hv
  have HT := Lib.hid ht
  have HP := Lib.hid hpn
  have hvi : (n : Int) ≤ 18446744073709551615 := by unfold MX at hv; omega
  have hmi2 : (m : Int) ≤ 18446744073709551615 := by omega
  have hs0 : (S.size : Int) ≤ 1099511627776 := by omega
  clear hpn hR hv ht hT hm
  go_enter Try.func42, Try.ntmps42
  go_wp2_with fail
  refine HP.out.mono ?_
  rintro _ w1 ⟨rfl, hR1, hO⟩
  have HO := Lib.hid hO
  clear hO HP
  by_cases he : e = 0
  · subst he
    obtain ⟨a1, ha1, hse1, hpl1⟩ := hR1
    have hs1 : s1 = S.extract a1 S.size := hse1
    have hpl2 : PLc w1 R S a1 0 := hpl1
    have HPl := Lib.hid (And.intro hpl2 hs1)
    have hz := ext_size S a1
    rw [← hs1] at hz
    have c0 : w1.cell? ⟨R, 0, none⟩ = some (.string S) := cell_at hpl2 0
    have c1 : w1.cell? ⟨R, 1, none⟩ = some (.int .i64 (a1 : Int)) := cell_at hpl2 1
    have c2 : w1.cell? ⟨R, 2, none⟩ = some (.int .i64 0) := cell_at hpl2 2
    have f1 := free_at hpl2 1
    clear hpl1 hse1 hpl2 hs1
    by_cases hmn : m < n
    · have hmi : (m : Int) < (n : Int) := by omega
      have HN : Hid (T = (⟨#[]⟩, 4, s1)) := Lib.hid (by rw [HT.out, if_neg (by simp), if_pos hmn])
      clear hmn HT hz
      go_wp2_with fail
      refine (pfail_any R S a1 0 4 hs w1 HPl.out.1).mono ?_
      rintro _ w2 ⟨rfl, hR2, hO2⟩
      have HR2 := Lib.hid hR2
      have HO2 := Lib.hid (HO.out.trans hO2)
      clear hO2 c0 c1 c2 f1 hR2
      go_wp2
      go_ret
      exact ⟨by rw [HN.out]; rfl, by rw [HN.out]; exact HR2.out, HO2.out⟩
    · have hmi : ¬ (m : Int) < (n : Int) := by omega
      obtain ⟨z, hzz⟩ : ∃ z : Nat, z = s1.size := ⟨_, rfl⟩
      have e1 : (S.size : Int) - (a1 : Int) = (z : Int) := by omega
      have hz1 : (z : Int) ≤ 1099511627776 := by omega
      have hz0 : (0 : Int) ≤ (z : Int) := by omega
      have ha0 : (0 : Int) ≤ (a1 : Int) := by omega
      have ha2 : (a1 : Int) ≤ (S.size : Int) := by omega
      by_cases hl : z < n
      · have hli : (z : Int) < (n : Int) := by omega
        have HN : Hid (T = (⟨#[]⟩, 2, s1)) := Lib.hid (by rw [HT.out, if_neg (by simp), if_neg hmn, if_pos (by omega)])
        clear hmn HT hz hl hzz
        go_wp2_with fail
        go_quiet (fail)
        obtain ⟨w2, hw2⟩ : ∃ X, X = w1.drewN nq := ⟨_, rfl⟩
        rw [← hw2]
        have HQ := Lib.hid (show PLc w2 R S a1 0 ∧ Only R W w2 by rw [hw2]; exact ⟨HPl.out.1, HO.out.drewN nq⟩)
        clear hw2 c0 c1 c2 f1
        clear nq
        go_wp2_with fail
        refine (pfail_any R S a1 0 2 hs w2 HQ.out.1).mono ?_
        rintro _ w3 ⟨rfl, hR2, hO2⟩
        have HR2 := Lib.hid hR2
        have HO2 := Lib.hid (HQ.out.2.trans hO2)
        clear hO2 hR2
        go_wp2
        go_ret
        exact ⟨by rw [HN.out]; rfl, by rw [HN.out]; exact HR2.out, HO2.out⟩
      · have hli : ¬ (z : Int) < (n : Int) := by omega
        have hli2 : (n : Int) ≤ (z : Int) := by omega
        have HN : Hid (T = (s1.extract 0 n, 0, s1.extract n s1.size)) := Lib.hid (by rw [HT.out, if_neg (by simp), if_neg hmn, if_neg (by omega)])
        obtain ⟨q, hq⟩ : ∃ q : Nat, q = a1 + n := ⟨_, rfl⟩
        have e2 : (a1 : Int) + (n : Int) = (q : Int) := by omega
        have hqs : (q : Int) ≤ (S.size : Int) := by omega
        have hqa : (a1 : Int) ≤ (q : Int) := by omega
        have hqs2 : q ≤ S.size := by omega
        have hqa2 : a1 ≤ q := by omega
        have HZ := Lib.hid hq
        clear hmn HT hz hl hzz hq
        go_wp2_with fail
        go_quiet (fail)
        obtain ⟨w2, hw2⟩ : ∃ X, X = w1.drewN nq := ⟨_, rfl⟩
        rw [← hw2]
        have HQ := Lib.hid (show PLc w2 R S a1 0 ∧ Only R W w2 by rw [hw2]; exact ⟨HPl.out.1, HO.out.drewN nq⟩)
        clear hw2 c0 c1 c2 f1
        clear nq
        have c0 : w2.cell? ⟨R, 0, none⟩ = some (.string S) := cell_at HQ.out.1 0
        have c1 : w2.cell? ⟨R, 1, none⟩ = some (.int .i64 (a1 : Int)) := cell_at HQ.out.1 1
        have f1 := free_at HQ.out.1 1
        go_wp2_with fail
        have HQ3 : PLc (w2.setCell ⟨R, 1, none⟩ (.int .i64 (q : Int))) R S q 0 := set_at HQ.out.1 1 (.int .i64 (q : Int))
        have HO3 := HQ.out.2.set 1 (.int .i64 (q : Int))
        generalize w2.setCell ⟨R, 1, none⟩ (.int .i64 (q : Int)) = w3 at *
        have HQ4 := Lib.hid (And.intro HQ3 HO3)
        clear HQ3 HO3 c0 c1 f1
        have c0 : w3.cell? ⟨R, 0, none⟩ = some (.string S) := cell_at HQ4.out.1 0
        have c1 : w3.cell? ⟨R, 1, none⟩ = some (.int .i64 (q : Int)) := cell_at HQ4.out.1 1
        go_quiet (fail)
        obtain ⟨w4, hw4⟩ : ∃ X, X = w3.drewN nq := ⟨_, rfl⟩
        rw [← hw4]
        have HQ5 := Lib.hid (show PLc w4 R S q 0 ∧ Only R W w4 by rw [hw4]; exact ⟨HQ4.out.1, HQ4.out.2.drewN nq⟩)
        clear hw4 c0 c1
        clear nq
        go_wp2
        go_ret
        refine ⟨?_, ?_, HQ5.out.2⟩
        · rw [HN.out, HPl.out.2, ext_pre, ← HZ.out]; rfl
        · rw [HN.out]
          exact ⟨q, hqs2, by rw [HPl.out.2]; show (S.extract a1 S.size).extract n (S.extract a1 S.size).size = _; rw [ext_ext, ← HZ.out], HQ5.out.1⟩
  · have HN : Hid (T = (⟨#[]⟩, e, s1)) := Lib.hid (by rw [HT.out, if_pos he])
    have he2 : (e == 0) = false := by simpa using he
    have HR1 := Lib.hid hR1
    obtain ⟨a1, ha1, hse1, hpl1⟩ := hR1
    rw [after_bad e s1 he] at hpl1
    have c2 : w1.cell? ⟨R, 2, none⟩ = some (.int .i64 e) := cell_at hpl1 2
    clear hpl1 hse1
    go_wp2
    go_ret
    exact ⟨by rw [HN.out]; rfl, by rw [HN.out]; exact HR1.out, HO.out⟩

set_option maxRecDepth 20000 in
set_option maxHeartbeats 1000000 in
theorem pText_any (R : Nat) (S : ByteArray) (r : R2) (m : Nat) (hm : m < 9223372036854775808) (hs : S.size ≤ 1099511627776) (W : World) (hR : PLies W R S r) :
    Calls Try.prog 45 #[.pointer (some ⟨R, 0, none⟩), .int .i64 (m : Int)] W fun e w' => e = .returned (.string (r.text m).1) ∧ PLies w' R S (r.text m).2 ∧ Only R W w' := by
  obtain ⟨s, b⟩ := r
  have HR := Lib.hid hR
  obtain ⟨a, ha, hse, hpl⟩ := hR
  by_cases hb : b = 0
  · subst hb
    have hnum : (⟨s, 0⟩ : R2).text m = ((textR m s).1, R2.after (textR m s).2.1 (textR m s).2.2) := by unfold R2.text; rw [if_pos rfl]
    have c2 : W.cell? ⟨R, 2, none⟩ = some (.int .i64 0) := cell_at hpl 2
    rw [hnum]
    have HT := Lib.hid (ptext_in R S s m (by omega) hs W HR.out)
    clear hpl hse ha hnum
    go_enter Try.func45, Try.ntmps45
    go_wp2_with fail
    refine (many_any m hm W).mono ?_
    rintro _ w1 ⟨rfl, hw1⟩
    obtain rfl := hw1.symm
    go_wp2_with fail
    refine HT.out.mono ?_
    rintro _ w2 ⟨rfl, hR2, hO2⟩
    go_wp2
    go_ret
    exact ⟨rfl, hR2, hO2⟩
  · have hnum : (⟨s, b⟩ : R2).text m = (⟨#[]⟩, ⟨s, b⟩) := by unfold R2.text; rw [if_neg hb]
    rw [hnum]
    have hb2 : (b == 0) = false := by simpa using hb
    have c2 : W.cell? ⟨R, 2, none⟩ = some (.int .i64 b) := cell_at hpl 2
    clear hpl hnum hse ha
    go_enter Try.func45, Try.ntmps45
    go_wp2
    go_ret
    exact ⟨rfl, HR.out, Only.refl _ _⟩

set_option maxRecDepth 20000 in
set_option maxHeartbeats 1000000 in
theorem pend_any (R : Nat) (S : ByteArray) (r : R2) (hs : S.size ≤ 1099511627776) (W : World) (hR : PLies W R S r) :
    Calls Try.prog 24 #[.pointer (some ⟨R, 0, none⟩)] W fun e w' => e = .returned (.int .i64 r.end') ∧ PLies w' R S r ∧ Only R W w' := by
  obtain ⟨s, b⟩ := r
  have HR := Lib.hid hR
  obtain ⟨a, ha, hse, hpl⟩ := hR
  have hse1 : s = S.extract a S.size := hse
  have hz := ext_size S a
  rw [← hse1] at hz
  have hend : (⟨s, b⟩ : R2).end' = if b = 0 ∧ 0 < s.size then 4 else b := rfl
  have c0 : W.cell? ⟨R, 0, none⟩ = some (.string S) := cell_at hpl 0
  have c1 : W.cell? ⟨R, 1, none⟩ = some (.int .i64 (a : Int)) := cell_at hpl 1
  have c2 : W.cell? ⟨R, 2, none⟩ = some (.int .i64 b) := cell_at hpl 2
  have hs0 : (S.size : Int) ≤ 1099511627776 := by omega
  have hd : ∀ n, PLies (W.drewN n) R S ⟨s, b⟩ ∧ Only R W (W.drewN n) := fun n => ⟨HR.out, (Only.refl R W).drewN n⟩
  have HD := Lib.hid hd
  rw [hend]
  by_cases hb : b = 0
  · subst hb
    by_cases hl : a < S.size
    · have hli : (a : Int) < (S.size : Int) := by omega
      rw [if_pos ⟨rfl, by omega⟩]
      clear hpl hse hse1 hend hl hd hz
      go_enter Try.func24, Try.ntmps24
      go_wp2_with fail
      go_quiet (fail)
      have h5 := HD.out nq
      generalize W.drewN nq = w2 at *
      clear c0 c1 c2
      go_wp2
      go_ret
      exact ⟨rfl, h5.1, h5.2⟩
    · have hli : ¬ (a : Int) < (S.size : Int) := by omega
      have hln : decide ((a : Int) < (S.size : Int)) = false := by simpa using hli
      have hln2 : decide (a < S.size) = false := by simpa using hl
      rw [if_neg (fun h => by omega)]
      clear hpl hse hse1 hend hl hd hz
      go_enter Try.func24, Try.ntmps24
      go_wp2_with fail
      go_quiet (fail)
      have h5 := HD.out nq
      have c2 : (W.drewN nq).cell? ⟨R, 2, none⟩ = some (.int .i64 0) := c2
      generalize W.drewN nq = w2 at *
      have H5 := Lib.hid h5
      clear h5
      go_wp2
      go_ret
      exact ⟨rfl, H5.out.1, H5.out.2⟩
  · have hb2 : (b == 0) = false := by simpa using hb
    have hb3 : decide (b = 0) = false := by simpa using hb
    rw [if_neg (fun h => hb h.1)]
    clear hpl hse hse1 hend hd hz
    go_enter Try.func24, Try.ntmps24
    go_wp2_with fail
    go_quiet (fail)
    have h5 := HD.out nq
    have c2 : (W.drewN nq).cell? ⟨R, 2, none⟩ = some (.int .i64 b) := c2
    generalize W.drewN nq = w2 at *
    have H5 := Lib.hid h5
    clear h5
    go_wp2
    go_ret
    exact ⟨rfl, H5.out.1, H5.out.2⟩
end Go.Proofs.Ythamemaomedldaa.Rd
