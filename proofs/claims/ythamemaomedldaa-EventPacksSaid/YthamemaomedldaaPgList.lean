/- The page's reader: List. -/
import Derived.Test.YthamemaomedldaaPgText
import Derived.Test.YthamemaomedldaaReadLists
namespace Go.Proofs.Ythamemaomedldaa.Rd
open Go Go.RowKit Num Texts

set_option maxRecDepth 20000 in
set_option maxHeartbeats 2000000 in
theorem plist_in (R : Nat) (S s : ByteArray) (m : Nat) (hm : m ≤ 1000000) (hs : S.size ≤ 1099511627776) (W : World) (hR : PLies W R S ⟨s, 0⟩) :
    Calls Try.prog 23 #[.pointer (some ⟨R, 0, none⟩), .int .i64 (m : Int)] W
      fun e w' => (∃ v, e = .returned v ∧ w'.ownsRow W.heap.size 9 1 v (listR m s).1.length ((listR m s).1.map Value.string)) ∧ PLies w' R S (R2.after (listR m s).2.1 (listR m s).2.2) ∧ Only R W w' := by
  obtain ⟨i0, hinf, hy0, hy1, hy2⟩ := info_parts infoS
  have hpn := pnumber_any R S ⟨s, 0⟩ rfl hs W hR
  have hv := numR_val 18446744073709551615 s
  obtain ⟨a, ha, hse, hpl⟩ := hR
  have hRlt := (Array.getElem?_eq_some_iff.1 hpl).1
  have c2 : W.cell? ⟨R, 2, none⟩ = some (.int .i64 0) := cell_at hpl 2
  have hl : listR m s = if (numR 18446744073709551615 s).2.1 ≠ 0 then ([], (numR 18446744073709551615 s).2) else if m < (numR 18446744073709551615 s).1 then ([], 4, (numR 18446744073709551615 s).2.2) else textsN (numR 18446744073709551615 s).1 (numR 18446744073709551615 s).2.2 := rfl
  dsimp only at hpn
  generalize listR m s = L at *
  generalize numR 18446744073709551615 s = x at *
  obtain ⟨n, e, s1⟩ := x
  dsimp only at hpn hl hv
  have HP := Lib.hid hpn
  have HL := Lib.hid hl
  have HI := Lib.hid (And.intro hinf (And.intro hy0 (And.intro hy1 hy2)))
  have hvi : (n : Int) ≤ 18446744073709551615 := by omega
  have hmi : (m : Int) ≤ 1000000 := by omega
  clear hpn hl hpl hse ha hv hinf hy0 hy1 hy2
  go_enter Try.func23, Try.ntmps23
  go_wp2_with fail
  refine HP.out.mono ?_
  rintro _ w1 ⟨rfl, hR1, hO⟩
  have HO := Lib.hid hO
  clear hO c2 HP
  by_cases he : e = 0
  · subst he
    have hR1 : PLies w1 R S ⟨s1, 0⟩ := hR1
    have HR1 := Lib.hid hR1
    obtain ⟨a1, ha1, hse1, hpl1⟩ := hR1
    have c2 : w1.cell? ⟨R, 2, none⟩ = some (.int .i64 0) := cell_at hpl1 2
    have HPl := Lib.hid (show PLc w1 R S a1 0 from hpl1)
    clear hse1 hpl1
    by_cases hmn : m < n
    · have hmni : (m : Int) < (n : Int) := by omega
      have hn0 : (0 : Int) < (n : Int) := by omega
      have HN : Hid (L = ([], 4, s1)) := Lib.hid (by rw [HL.out, if_neg (by simp), if_pos hmn])
      clear hmn HL
      go_wp2_with fail
      refine (many_any m (by omega) _).mono ?_
      rintro _ w2 ⟨rfl, hw2⟩
      obtain rfl := hw2.symm
      go_wp2_with fail
      refine (pfail_any R S a1 0 4 hs _ HPl.out).mono ?_
      rintro _ w3 ⟨rfl, hR3, hO3⟩
      have HR3 := Lib.hid hR3
      have HO3 := Lib.hid (HO.out.trans hO3)
      obtain ⟨a3, ha3, hse3, hpl3⟩ := hR3
      have c3 : w3.cell? ⟨R, 2, none⟩ = some (.int .i64 4) := cell_at hpl3 2
      clear hO3 c2 hpl3 hse3
      go_wp2_with fail
      refine wp_loop_rounds 1 ?_
      rw [rounds_succ]
      go_wp2_with fail
      go_ret
      exact ⟨⟨.slice none 0 0, rfl, by rw [HN.out]; exact World.ownsRow_nil _ _ _ _⟩, by rw [HN.out]; exact HR3.out, HO3.out⟩
    · have hmni : ¬ (m : Int) < (n : Int) := by omega
      have hn6 : n ≤ 1000000 := by omega
      have hn6i : (n : Int) ≤ 1000000 := by omega
      have HN : Hid (L = textsN n s1) := Lib.hid (by rw [HL.out, if_neg (by simp), if_neg hmn])
      clear hmn HL
      go_wp2_with fail
      refine (many_any m (by omega) _).mono ?_
      rintro _ w2 ⟨rfl, hw2⟩
      obtain rfl := hw2.symm
      go_wp2_with fail
      generalize decide (m < n) = bz
      go_loopw [6, 7] (fun l i wr => ∃ (j : Nat) (xs : List ByteArray) (r' : R2), i = .int .u64 (j : Int) ∧ j ≤ n ∧ xs.length = j ∧ Hid ((r'.b = 0 ∧ textsN n s1 = glue xs (textsN (n - j) r'.s)) ∨ (r'.b ≠ 0 ∧ r'.s = ⟨#[]⟩ ∧ ∃ s2, textsN n s1 = ([], r'.b, s2))) ∧ PLies wr R S r' ∧ wr.ownsRow W.heap.size 9 1 l xs.length (xs.map Value.string) ∧ Only R W wr) (fun _ i _ => n - (intOf i).toNat)
      case atStart => exact ⟨0, [], ⟨s1, 0⟩, rfl, Nat.zero_le _, rfl, Lib.hid (.inl ⟨rfl, (glue_nil n s1).symm⟩), HR1.out, World.ownsRow_nil _ _ _ _, HO.out⟩
      case round =>
        obtain ⟨j, xs, r', rfl, hj, hxl, hG, hR', hown, hO'⟩ := hrel
        obtain ⟨A1, d1, rfl⟩ := own_form hown
        obtain ⟨s', b'⟩ := r'
        have HR' := Lib.hid hR'
        obtain ⟨a', ha', hse', hpl'⟩ := hR'
        have c3 : wr.cell? ⟨R, 2, none⟩ = some (.int .i64 b') := cell_at hpl' 2
        have HXL := Lib.hid hxl
        have HW := Lib.hid hown
        have HO' := Lib.hid hO'
        have hj0 : (0 : Int) ≤ (j : Int) := by omega
        clear c2 hpl' hse' hown hO' hxl HPl HR1
        by_cases hb : b' = 0
        · subst hb
          have hgl : textsN n s1 = glue xs (textsN (n - j) s') := by
            rcases hG.out with h | h
            · exact h.2
            · exact absurd rfl h.1
          have HGl := Lib.hid hgl
          clear hgl hG
          by_cases hlt : j < n
          · have hlti : (j : Int) < (n : Int) := by omega
            have ht := ptext_in R S s' 18446744073709551615 (by decide) hs wr HR'.out
            obtain ⟨k, hk⟩ : ∃ k, n - j = k + 1 := ⟨n - j - 1, by omega⟩
            rw [hk] at HGl
            have hok := fun d s'' h => glue_ok xs k s' d s'' h
            have hbd := fun d s'' e he h => glue_bad xs k s' d s'' e he h
            generalize textR 18446744073709551615 s' = y at *
            obtain ⟨d, e2, s2⟩ := y
            dsimp only at ht
            have HTx := Lib.hid ht
            have HOk := Lib.hid hok
            have HBd := Lib.hid hbd
            have HK := Lib.hid hk
            have hj1 : (j : Int) + 1 ≤ 1000000 := by omega
            have hxb : xs.length ≤ 1000000 := by have := HXL.out; omega
            clear ht hok hbd hk hn6
            go_wp2_with fail
            refine HTx.out.mono ?_
            rintro _ w3 ⟨rfl, hR3, hO3⟩
            have HW3 := Lib.hid (own_only HW.out hO3 hRlt)
            have HO3 := Lib.hid (HO'.out.trans hO3)
            have HR3 := Lib.hid hR3
            have hsz3 : W.heap.size ≤ w3.heap.size := HO3.out.size
            clear HTx HW HO' hR3 hO3 c3 HR'
            go_wp2_with (at_builtin; refine wpList_append_own _ rfl _ _ 24 rfl W.heap.size 9 i0 (.string ⟨#[]⟩) 1 16 Try.underlying24 HI.out.1 HI.out.2.1 HI.out.2.2.1 HI.out.2.2.2 rfl (by decide) _ _ _ rfl (HW3.out.alloc _) ⟨w3.heap.size, 0, none⟩ 1 1 [.string d] rfl rfl (news1 w3 _ _) (one_one rfl) (by unfold maxLen; omega) (by omega) (by simp; omega) ?_; intro v4 w4 hown4 hg4 _)
            have hwa := HW3.out.alloc (.cells #[.string d] 9)
            have hR4 : PLies w4 R S (R2.after e2 s2) := by
              obtain ⟨a3, ha3, hse3, hpl3⟩ := HR3.out
              exact ⟨a3, ha3, hse3, grown_off ((Below.heap_alloc _ _ _ (Array.getElem?_eq_some_iff.1 hpl3).1).trans hpl3) hg4 hwa (by decide)⟩
            have hO4 := (HO3.out.alloc _).push hwa (Nat.le_refl _) hg4
            refine ⟨⟨j + 1, xs ++ [d], R2.after e2 s2, by go_num, by omega, by rw [List.length_append, HXL.out]; rfl, Lib.hid ?_, hR4, by rw [List.length_append, List.map_append]; exact hown4, hO4⟩, by simp [intOf]; omega⟩
            by_cases he2 : e2 = 0
            · subst he2
              refine .inl ⟨rfl, ?_⟩
              rw [HGl.out, HOk.out d s2 rfl, show n - (j + 1) = k by have := HK.out; omega]
              rfl
            · refine .inr ?_
              rw [after_bad e2 s2 he2]
              exact ⟨he2, rfl, s2, by rw [HGl.out, HBd.out d s2 e2 he2 rfl]⟩
          · obtain rfl : j = n := by omega
            have HX : Hid (L = (xs, 0, s')) := Lib.hid (by rw [HN.out, HGl.out, Nat.sub_self]; exact glue_end xs s')
            clear HGl hlt hn6
            go_wp2_with fail
            go_ret
            exact ⟨⟨_, rfl, by rw [HX.out]; exact HW.out⟩, by rw [HX.out]; exact HR'.out, HO'.out⟩
        · obtain ⟨hsn, s2, hts⟩ : s' = ⟨#[]⟩ ∧ ∃ s2, textsN n s1 = ([], b', s2) := by
            rcases hG.out with h | h
            · exact absurd h.1 hb
            · exact h.2
          have HX : Hid (L = ([], b', s2)) := Lib.hid (by rw [HN.out, hts])
          have HSn := Lib.hid hsn
          have hb2 : (b' == 0) = false := by simpa using hb
          have hb3 : decide (b' = 0) = false := by simpa using hb
          have HB := Lib.hid hb
          clear hG hts hsn hb hn6
          by_cases hlt : j < n
          · have hlti : (j : Int) < (n : Int) := by omega
            clear hlt
            go_wp2_with fail
            go_ret
            exact ⟨⟨.slice none 0 0, rfl, by rw [HX.out]; exact World.ownsRow_nil _ _ _ _⟩, by rw [HX.out, after_bad b' s2 HB.out, ← HSn.out]; exact HR'.out, HO'.out⟩
          · obtain rfl : j = n := by omega
            clear hlt
            go_wp2_with fail
            go_ret
            exact ⟨⟨.slice none 0 0, rfl, by rw [HX.out]; exact World.ownsRow_nil _ _ _ _⟩, by rw [HX.out, after_bad b' s2 HB.out, ← HSn.out]; exact HR'.out, HO'.out⟩
  · have HN : Hid (L = ([], e, s1)) := Lib.hid (by rw [HL.out, if_pos he])
    have he2 : (e == 0) = false := by simpa using he
    have he3 : decide (e = 0) = false := by simpa using he
    rw [after_bad e s1 he] at hR1
    have HR1 := Lib.hid hR1
    have HE := Lib.hid he
    obtain ⟨a1, ha1, hse1, hpl1⟩ := hR1
    have c2 : w1.cell? ⟨R, 2, none⟩ = some (.int .i64 e) := cell_at hpl1 2
    have hn0 : (0 : Int) ≤ (n : Int) := by omega
    clear hpl1 hse1 HL he
    by_cases hn : 0 < n
    · have hni : (0 : Int) < (n : Int) := by omega
      clear hn
      go_wp2_with fail
      refine wp_loop_rounds 1 ?_
      rw [rounds_succ]
      go_wp2_with fail
      go_ret
      exact ⟨⟨.slice none 0 0, rfl, by rw [HN.out]; exact World.ownsRow_nil _ _ _ _⟩, by rw [HN.out, after_bad e s1 HE.out]; exact HR1.out, HO.out⟩
    · obtain rfl : n = 0 := by omega
      clear hn
      go_wp2_with fail
      refine wp_loop_rounds 1 ?_
      rw [rounds_succ]
      go_wp2_with fail
      go_ret
      exact ⟨⟨.slice none 0 0, rfl, by rw [HN.out]; exact World.ownsRow_nil _ _ _ _⟩, by rw [HN.out, after_bad e s1 HE.out]; exact HR1.out, HO.out⟩

/-- List of the page's reader -/
theorem plist_any (R : Nat) (S s : ByteArray) (m : Nat) (hm : m ≤ 1000000) (hs : S.size ≤ 1099511627776) (W : World) (hR : PLies W R S ⟨s, 0⟩) :
    Calls Try.prog 23 #[.pointer (some ⟨R, 0, none⟩), .int .i64 (m : Int)] W
      fun e w' => (∃ v, e = .returned v ∧ w'.ownsRow W.heap.size 9 1 v ((⟨s, 0⟩ : R2).list m).1.length (((⟨s, 0⟩ : R2).list m).1.map Value.string)) ∧ PLies w' R S ((⟨s, 0⟩ : R2).list m).2 ∧ Only R W w' := by
  have e : (⟨s, 0⟩ : R2).list m = ((listR m s).1, R2.after (listR m s).2.1 (listR m s).2.2) := by unfold R2.list; rw [if_pos rfl]
  rw [e]
  exact plist_in R S s m hm hs W hR
end Go.Proofs.Ythamemaomedldaa.Rd
