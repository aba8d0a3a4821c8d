/- The page's Unpack of transactions. -/
import Derived.Test.YtfalmebgjghjeabPgGet
import Derived.Test.YtfalmebgjghjeabPgList
import Derived.Test.YtfalmebgjghjeabTxnUnpack
namespace Go.Proofs.Ytfalmebgjghjeab.Rd
open Go Go.RowKit Num Texts Packet
open Msg (M7 mevs own_formN T4 TT TM tcells tcells_snoc cells4_new cells4_one infoT own_other own_base)

set_option maxRecDepth 20000 in
set_option maxHeartbeats 4000000 in
theorem punpack_any (s : ByteArray) (hs : s.size ≤ 1099511627776) (W : World) :
    Calls Try.prog 6 #[.string s] W fun e w' => (∃ v ps, e = .returned (.tuple #[v, .int .i64 ((unpackR s).2.1 : Int), .int .i64 (unpackR s).2.2]) ∧ TxRow W.heap.size w' v ps ∧ ps.map keyP = (unpackR s).1.map keyQ) ∧ Below W.heap.size W w' := by
  obtain ⟨i1, hi1, hy0, hy1, hy2⟩ := info_parts infoT
  have HI := Lib.hid (And.intro hi1 (And.intro hy0 (And.intro hy1 hy2)))
  have HT := Lib.hid (fun (R : Nat) (V : World) (h : PLies V R s ⟨s, 0⟩) => plist_any R s s 1024 (by decide) hs V h)
  have hsz := R2.list_size ⟨s, 0⟩ 1024
  have hu : unpackR s = if ((R2.mk s 0).list 1024).2.end' ≠ 0 then ([], 0, ((R2.mk s 0).list 1024).2.end') else eachR 0 ((R2.mk s 0).list 1024).1 := rfl
  generalize unpackR s = U at *
  generalize (R2.mk s 0).list 1024 = x at *
  obtain ⟨ss, r⟩ := x
  dsimp only at hu HT hsz
  have HU := Lib.hid hu
  have HSz := Lib.hid hsz
  clear hu hsz hi1 hy0 hy1 hy2
  obtain ⟨w1, hw1⟩ : ∃ X, X = W.alloc (.cells #[.string s, .int .i64 0, .int .i64 0] 39) := ⟨_, rfl⟩
  have hR : PLies w1 W.heap.size s ⟨s, 0⟩ := ⟨0, Nat.zero_le _, by show s = s.extract 0 s.size; rw [ByteArray.extract_zero_size], by rw [hw1]; exact heap_alloc_new W _⟩
  have HB := Lib.hid (show Below W.heap.size W w1 by rw [hw1]; exact (Below.refl _ _).alloc (Nat.le_refl _) _)
  go_enter Try.func6, Try.ntmps6
  go_upto_region 2 with fail
  rw [← hw1]
  clear hw1
  obtain ⟨R, hRe⟩ : ∃ R, R = W.heap.size := ⟨_, rfl⟩
  rw [← hRe] at hR ⊢
  have HRe := Lib.hid hRe
  clear hRe
  go_wp2_with fail
  refine (HT.out _ _ hR).mono ?_
  rintro _ w2 ⟨⟨v, rfl, hv⟩, hR2, hO⟩
  obtain ⟨A, c, rfl⟩ := own_form hv
  have HB2 := Lib.hid (Only.below HB.out hO (by rw [HRe.out]; exact Nat.le_refl _) HB.out.size)
  have HV := Lib.hid (own_rds hv)
  have HE := Lib.hid (fun V (h : PLies V R s r) => pend_any R s r hs V h)
  have HR2 := Lib.hid hR2
  obtain ⟨e, hee⟩ : ∃ e, e = r.end' := ⟨_, rfl⟩
  rw [← hee] at HE
  have HEe : Hid (r.end' = e) := Lib.hid hee.symm
  have hvT := fun V (hO : Only R w2 V) => own_only' hv hO (Classical.choose_spec hR2).2.2 (by decide)
  have HVT := Lib.hid hvT
  clear hee hvT hv hR hR2 hO HB HT
  go_wp2_with fail
  refine (HE.out _ HR2.out).mono ?_
  rintro _ w3 ⟨rfl, hR3, hO3⟩
  have HR3 := Lib.hid hR3
  have HV3 := Lib.hid (own_rds (HVT.out _ hO3))
  have HB3 := Lib.hid (Only.below HB2.out hO3 (by rw [HRe.out]; exact Nat.le_refl _) HB2.out.size)
  clear hR3 hO3 HVT HV HB2 HR2
  by_cases he : e = 0
  · subst he
    have HX : Hid (U = eachR 0 ss) := Lib.hid (by rw [HU.out, HEe.out, if_neg (by simp)])
    clear HU HEe HE HR3
    obtain ⟨n, hne⟩ : ∃ n, n = ss.length := ⟨_, rfl⟩
    rw [← hne] at HV3 ⊢
    have HNe := Lib.hid hne
    have hn : n ≤ 1000000 := by have := HSz.out.1; omega
    have hni : (n : Int) ≤ 1000000 := by omega
    clear hne
    go_wp2_with fail
    go_loopw [7, 8] (fun l i wr => ∃ (k : Nat) (ps : List T4) (xs : List Q4), i = .int .i64 (k : Int) ∧ k ≤ n ∧ ps.length = k ∧ Hid (eachR 0 ss = glueE xs (eachR k (ss.drop k))) ∧ TxRow w3.heap.size wr l ps ∧ ps.map keyP = xs.map keyQ ∧ Below w3.heap.size w3 wr) (fun _ i _ => n - (intOf i).toNat)
    case atStart => exact ⟨0, [], [], rfl, Nat.zero_le _, rfl, Lib.hid (glueE_nil 0 ss).symm, TxRow.nil _ _, rfl, Below.refl _ _⟩
    case round =>
      obtain ⟨k, ps, xs, rfl, hk, hpk, hG, hT, hkey, hB⟩ := hrel
      obtain ⟨Al, cl, hlv⟩ := own_formN hT.row
      rw [hpk] at hlv
      subst hlv
      have HPK := Lib.hid hpk
      have HT := Lib.hid hT
      have HK := Lib.hid hkey
      have HB := Lib.hid hB
      clear hT hkey hB hpk
      by_cases hlt : k < n
      · obtain ⟨b, off, hA, hbl, hc⟩ := HV3.out.2 (by omega)
        subst hA
        have hck := (HB.out.cell (p := ⟨b, off + k, none⟩) hbl).trans (hc k hlt)
        have hkl : k < ss.length := by have := HNe.out; omega
        have hdrop : ss.drop k = ss.getD k .empty :: ss.drop (k + 1) := by
          rw [List.drop_eq_getElem_cons hkl, List.getD_eq_getElem?_getD, List.getElem?_eq_getElem hkl]; rfl
        have hok := fun q h => glueE_ok xs k (ss.getD k .empty) (ss.drop (k + 1)) q h
        have hbd := fun q e he h => glueE_bad xs k (ss.getD k .empty) (ss.drop (k + 1)) q e he h
        rw [← hdrop] at hok hbd
        have hget := pget_any (ss.getD k .empty) (by
          rw [List.getD_eq_getElem?_getD, List.getElem?_eq_getElem hkl]
          have := HSz.out.2 _ (List.getElem_mem hkl)
          show ss[k].size ≤ _
          omega)
        generalize ss.getD k .empty = s0 at hck hok hbd hget
        generalize getT s0 = y at hok hbd hget
        obtain ⟨q, e⟩ := y
        dsimp only at hget
        have HOk := Lib.hid hok
        have HBd := Lib.hid hbd
        have HGet := Lib.hid hget
        have hi0 : (0 : Int) ≤ (k : Int) := by omega
        have hi2 : (k : Int) < (n : Int) := by omega
        have hi3 : (k : Int) ≤ 1000000 := by omega
        clear hok hbd hget hdrop hc
        go_wp2_with fail
        refine (HGet.out _).mono ?_
        rintro _ w4 ⟨⟨v, rfl, hv⟩, b4⟩
        obtain ⟨Ao, co, rfl⟩ := own_formN hv
        have HV4 := Lib.hid (own_base hv HB.out.size)
        have HT4 := Lib.hid (HT.out.below b4)
        have HB4 := Lib.hid (HB.out.trans (b4.mono HB.out.size))
        clear hv b4 hck HT HB HGet
        by_cases he : e = 0
        · subst he
          go_upto_region 10 with fail
          obtain ⟨W5, hW5⟩ : ∃ X, X = w4.alloc (.cells #[.int .i64 (q.1 : Int), .int .i64 (q.2.1 : Int), .int .u64 (q.2.2.1 : Int), .slice Ao q.2.2.2.length co] 34) := ⟨_, rfl⟩
          rw [← hW5]
          have hb5 : Below w4.heap.size w4 W5 := by rw [hW5]; exact (Below.refl _ _).alloc (Nat.le_refl _) _
          have hQ := heap_alloc_new w4 (.cells #[.int .i64 (q.1 : Int), .int .i64 (q.2.1 : Int), .int .u64 (q.2.2.1 : Int), .slice Ao q.2.2.2.length co] 34)
          rw [← hW5] at hQ
          have HT3 := Lib.hid (HT4.out.below hb5)
          have HVa := Lib.hid (own_below HV4.out hb5)
          have HBa := Lib.hid (HB4.out.trans (hb5.mono HB4.out.size))
          obtain ⟨Q, hQe⟩ : ∃ Q, Q = w4.heap.size := ⟨_, rfl⟩
          rw [← hQe] at hQ ⊢
          obtain ⟨x0, x1, x2, x3⟩ : _ ∧ _ ∧ _ ∧ _ := ⟨cell_of_row W5 _ 0 _ _ (0, 0) hQ, cell_of_row W5 _ 1 _ _ (0, 0) hQ, cell_of_row W5 _ 2 _ _ (0, 0) hQ, cell_of_row W5 _ 3 _ _ (0, 0) hQ⟩
          clear hW5 hb5 hQ hQe HT4 HV4 HB4
          have hrow3 := HT3.out.row
          rw [HPK.out] at hrow3
          have hz3 : w3.heap.size ≤ W5.heap.size := HBa.out.size
          have hkn : k ≤ 1000000 := by omega
          go_wp2_with (at_builtin; refine wpList_append_own_at _ rfl _ _ 23 rfl w3.heap.size 34 i1 _ 4 48 Try.underlying23 HI.out.1 HI.out.2.1 HI.out.2.2.1 HI.out.2.2.2 rfl (by decide) _ _ _ rfl (hrow3.alloc _) ⟨W5.heap.size, 0, none⟩ 1 1 (T4.cells ⟨q.1, q.2.1, q.2.2.1, Ao, q.2.2.2.length, co, q.2.2.2⟩).toList rfl rfl (cells4_new W5 ⟨q.1, q.2.1, q.2.2.1, Ao, q.2.2.2.length, co, q.2.2.2⟩ _) (cells4_one _) (by unfold maxLen; omega) (by omega) (by simp; omega) ?_; intro v6 w6 hown6 hg6 _ _)
          have hwa := hrow3.alloc (.cells (T4.cells ⟨q.1, q.2.1, q.2.2.1, Ao, q.2.2.2.length, co, q.2.2.2⟩) 34)
          have hB6 := below_push HBa.out hz3 hrow3 hg6
          refine ⟨⟨k + 1, ps ++ [⟨q.1, q.2.1, q.2.2.1, Ao, q.2.2.2.length, co, q.2.2.2⟩], xs ++ [q], by go_num, by omega, by simp [HPK.out], Lib.hid (hG.out.trans (HOk.out q rfl)), ⟨?_, ?_⟩, ?_, hB6⟩, by simp [intOf]; omega⟩
          · rw [List.length_append, List.length_singleton, HPK.out, tcells_snoc]
            exact hown6
          · intro p hp
            rcases List.mem_append.1 hp with hp | hp
            · exact ⟨(HT3.out.own p hp).1, own_other ((HT3.out.own p hp).2.alloc _) hwa (by decide) hg6⟩
            · simp at hp
              subst hp
              exact ⟨rfl, own_other (HVa.out.alloc _) hwa (by decide) hg6⟩
          · rw [List.map_append, List.map_append, HK.out]; rfl
        · have he2 : (e == 0) = false := by simpa using he
          have HX2 : Hid (U = ([], k + 1, e)) := Lib.hid (by rw [HX.out, hG.out]; exact HBd.out q e he rfl)
          clear HX HOk HBd hG hk HV3 HSz
          have hB9 : ∀ o, Below W.heap.size W (w4.alloc o) := fun o => (HB3.out.trans (HB4.out.mono HB3.out.size)).alloc (Nat.le_trans HB3.out.size HB4.out.size) o
          go_wp2
          refine bodyPost_ret (results_tmp3 rfl _ _ _) rfl ?_
          refine ⟨⟨.slice none 0 0, [], ?_, TxRow.nil _ _, by rw [HX2.out]; rfl⟩, hB9 _⟩
          rw [HX2.out]; rfl
      · obtain rfl : k = n := by omega
        have HX2 : Hid (U = (xs, 0, 0)) := Lib.hid (by rw [HX.out, hG.out, List.drop_of_length_le (by have := HNe.out; omega)]; exact glueE_end xs k)
        clear HX hG
        go_wp2
        refine bodyPost_ret (results_tmp3 rfl _ _ _) rfl ?_
        refine ⟨⟨.slice Al k cl, ps, ?_, ⟨own_base HT.out.row HB3.out.size, fun p hp => ⟨(HT.out.own p hp).1, own_base (HT.out.own p hp).2 HB3.out.size⟩⟩, by rw [HX2.out]; exact HK.out⟩, HB3.out.trans (HB.out.mono HB3.out.size)⟩
        rw [HX2.out]; rfl
  · have he2 : (e == 0) = false := by simpa using he
    have HX : Hid (U = ([], 0, e)) := Lib.hid (by rw [HU.out, HEe.out, if_pos he])
    clear HU HEe HV3 HSz
    go_wp2_with fail
    refine (HE.out _ HR3.out).mono ?_
    rintro _ w4 ⟨rfl, hR4, hO4⟩
    have HB4 := Lib.hid (Only.below HB3.out hO4 (by rw [HRe.out]; exact Nat.le_refl _) HB3.out.size)
    clear hR4 hO4
    go_wp2
    refine bodyPost_ret (results_tmp3 rfl _ _ _) rfl ?_
    exact ⟨⟨.slice none 0 0, [], by rw [HX.out]; rfl, TxRow.nil _ _, by rw [HX.out]; rfl⟩, HB4.out⟩
end Go.Proofs.Ytfalmebgjghjeab.Rd
