/- The page's Unpack of events. -/
import Derived.Test.YthamemaomedldaaPgEvGet
import Derived.Test.YthamemaomedldaaPgList
import Derived.Test.YthamemaomedldaaEvUnpack
namespace Go.Proofs.Ythamemaomedldaa.Rd
open Go Go.RowKit Num Texts Packet
open Ev (E8 evs evs_snoc own_form8 infoE cells8_new)
open Msg (own_base own_apart own_blk_type)

theorem own_only'' {R base e n size : Nat} {w w' : World} {v : Value} {xs : List Value} {cs : Array Value} {T : TypeId} (h : w.ownsRow base e size v n xs) (hO : Only R w w') (hT : w.heap[R]? = some (.cells cs T (0, 0))) (hne : T ≠ e) : w'.ownsRow base e size v n xs :=
  own_apart h (row := some R) (.inr (fun hv => by
    obtain ⟨_, _, ho⟩ := own_blk_type h hv hT
    injection ho with _ h2 _
    exact hne h2)) hO.grown

set_option maxRecDepth 20000 in
set_option maxHeartbeats 4000000 in
theorem peunpack_any (s : ByteArray) (hs : s.size ≤ 1099511627776) (W : World) :
    Calls Try.prog 12 #[.string s] W fun e w' => (∃ v, e = .returned (.tuple #[v, .int .i64 ((unpackE s).2.1 : Int), .int .i64 (unpackE s).2.2]) ∧ w'.ownsRow W.heap.size 30 8 v (unpackE s).1.length (evs (unpackE s).1)) ∧ Below W.heap.size W w' := by
  obtain ⟨i1, hi1, hy0, hy1, hy2⟩ := info_parts infoE
  have HI := Lib.hid (And.intro hi1 (And.intro hy0 (And.intro hy1 hy2)))
  have HT := Lib.hid (fun (R : Nat) (V : World) (h : PLies V R s ⟨s, 0⟩) => plist_any R s s 1024 (by decide) hs V h)
  have hsz := R2.list_size ⟨s, 0⟩ 1024
  have hu : unpackE s = if ((R2.mk s 0).list 1024).2.end' ≠ 0 then ([], 0, ((R2.mk s 0).list 1024).2.end') else eachE 0 ((R2.mk s 0).list 1024).1 := rfl
  generalize unpackE s = U at *
  generalize (R2.mk s 0).list 1024 = x at *
  obtain ⟨ss, r⟩ := x
  dsimp only at hu HT hsz
  have HU := Lib.hid hu
  have HSz := Lib.hid hsz
  clear hu hsz hi1 hy0 hy1 hy2
  obtain ⟨w1, hw1⟩ : ∃ X, X = W.alloc (.cells #[.string s, .int .i64 0, .int .i64 0] 52) := ⟨_, rfl⟩
  have hR : PLies w1 W.heap.size s ⟨s, 0⟩ := ⟨0, Nat.zero_le _, by show s = s.extract 0 s.size; rw [ByteArray.extract_zero_size], by rw [hw1]; exact heap_alloc_new W _⟩
  have HB := Lib.hid (show Below W.heap.size W w1 by rw [hw1]; exact (Below.refl _ _).alloc (Nat.le_refl _) _)
  go_enter Try.func12, Try.ntmps12
  go_upto_region 2 with fail
  rw [← hw1]
  clear hw1
  obtain ⟨R, hRe⟩ : ∃ R, R = W.heap.size := ⟨_, rfl⟩
  rw [← hRe] at hR ⊢
  have HRe := Lib.hid hRe
  clear hRe
  go_wp2_with fail
  refine (HT.out _ _ hR).mono ?_
  rintro _ w2 ⟨⟨v, rfl, hv⟩, hR2, hO⟩
  obtain ⟨A, c, rfl⟩ := own_form hv
  have HB2 := Lib.hid (Only.below HB.out hO (by rw [HRe.out]; exact Nat.le_refl _) HB.out.size)
  have HV := Lib.hid (own_rds hv)
  have HE := Lib.hid (fun V (h : PLies V R s r) => pend_any R s r hs V h)
  have HR2 := Lib.hid hR2
  obtain ⟨e, hee⟩ : ∃ e, e = r.end' := ⟨_, rfl⟩
  rw [← hee] at HE
  have HEe : Hid (r.end' = e) := Lib.hid hee.symm
  have hvT := fun V (hO : Only R w2 V) => own_only'' hv hO (Classical.choose_spec hR2).2.2 (by decide)
  have HVT := Lib.hid hvT
  clear hee hvT hv hR hR2 hO HB HT
  go_wp2_with fail
  refine (HE.out _ HR2.out).mono ?_
  rintro _ w3 ⟨rfl, hR3, hO3⟩
  have HR3 := Lib.hid hR3
  have HV3 := Lib.hid (own_rds (HVT.out _ hO3))
  have HB3 := Lib.hid (Only.below HB2.out hO3 (by rw [HRe.out]; exact Nat.le_refl _) HB2.out.size)
  clear hR3 hO3 HVT HV HB2 HR2
  by_cases he : e = 0
  · subst he
    have HX : Hid (U = eachE 0 ss) := Lib.hid (by rw [HU.out, HEe.out, if_neg (by simp)])
    clear HU HEe HE HR3
    obtain ⟨n, hne⟩ : ∃ n, n = ss.length := ⟨_, rfl⟩
    rw [← hne] at HV3 ⊢
    have HNe := Lib.hid hne
    have hn : n ≤ 1000000 := by have := HSz.out.1; omega
    have hni : (n : Int) ≤ 1000000 := by omega
    clear hne
    go_wp2_with fail
    go_loopw [7, 8] (fun l i wr => ∃ (k : Nat) (xs : List E8), i = .int .i64 (k : Int) ∧ k ≤ n ∧ xs.length = k ∧ Hid (eachE 0 ss = glueF xs (eachE k (ss.drop k))) ∧ wr.ownsRow w3.heap.size 30 8 l k (evs xs) ∧ Below w3.heap.size w3 wr) (fun _ i _ => n - (intOf i).toNat)
    case atStart => exact ⟨0, [], rfl, Nat.zero_le _, rfl, Lib.hid (glueF_nil 0 ss).symm, World.ownsRow_nil _ _ _ _, Below.refl _ _⟩
    case round =>
      obtain ⟨k, xs, rfl, hk, hpk, hG, hT, hB⟩ := hrel
      obtain ⟨Al, cl, rfl⟩ := own_form8 hT
      have HPK := Lib.hid hpk
      have HT := Lib.hid hT
      have HB := Lib.hid hB
      clear hT hB hpk
      by_cases hlt : k < n
      · obtain ⟨b, off, hA, hbl, hc⟩ := HV3.out.2 (by omega)
        subst hA
        have hck := (HB.out.cell (p := ⟨b, off + k, none⟩) hbl).trans (hc k hlt)
        have hkl : k < ss.length := by have := HNe.out; omega
        have hdrop : ss.drop k = ss.getD k .empty :: ss.drop (k + 1) := by
          rw [List.drop_eq_getElem_cons hkl, List.getD_eq_getElem?_getD, List.getElem?_eq_getElem hkl]; rfl
        have hok := fun q h => glueF_ok xs k (ss.getD k .empty) (ss.drop (k + 1)) q h
        have hbd := fun q e he h => glueF_bad xs k (ss.getD k .empty) (ss.drop (k + 1)) q e he h
        rw [← hdrop] at hok hbd
        have hget := pevget_any (ss.getD k .empty) (by
          rw [List.getD_eq_getElem?_getD, List.getElem?_eq_getElem hkl]
          have := HSz.out.2 _ (List.getElem_mem hkl)
          show ss[k].size ≤ _
          omega)
        generalize ss.getD k .empty = s0 at hck hok hbd hget
        generalize getE s0 = y at hok hbd hget
        obtain ⟨q, e⟩ := y
        dsimp only at hget
        unfold E8.cells at hget
        have HOk := Lib.hid hok
        have HBd := Lib.hid hbd
        have HGet := Lib.hid hget
        have hi0 : (0 : Int) ≤ (k : Int) := by omega
        have hi2 : (k : Int) < (n : Int) := by omega
        have hi3 : (k : Int) ≤ 1000000 := by omega
        clear hok hbd hget hdrop hc
        go_wp2_with fail
        refine (HGet.out _).mono ?_
        rintro _ w4 ⟨rfl, b4⟩
        have HT4 := Lib.hid (own_below HT.out b4)
        have HB4 := Lib.hid (HB.out.trans (b4.mono HB.out.size))
        clear b4 hck HT HB HGet
        by_cases he : e = 0
        · subst he
          go_upto_region 10 with fail
          obtain ⟨W5, hW5⟩ : ∃ X, X = w4.alloc (.cells #[.int .i64 q.k, .int .u64 q.h, .int .i64 q.c, .int .i64 q.f, .int .u64 q.s, .int .u64 q.t, .string q.d, .string q.a] 30) := ⟨_, rfl⟩
          rw [← hW5]
          have hb5 : Below w4.heap.size w4 W5 := by rw [hW5]; exact (Below.refl _ _).alloc (Nat.le_refl _) _
          have hQ := heap_alloc_new w4 (.cells #[.int .i64 q.k, .int .u64 q.h, .int .i64 q.c, .int .i64 q.f, .int .u64 q.s, .int .u64 q.t, .string q.d, .string q.a] 30)
          rw [← hW5] at hQ
          have HT3 := Lib.hid (own_below HT4.out hb5)
          have HBa := Lib.hid (HB4.out.trans (hb5.mono HB4.out.size))
          obtain ⟨Q, hQe⟩ : ∃ Q, Q = w4.heap.size := ⟨_, rfl⟩
          rw [← hQe] at hQ ⊢
          obtain ⟨x0, x1, x2, x3, x4, x5, x6, x7⟩ : _ ∧ _ ∧ _ ∧ _ ∧ _ ∧ _ ∧ _ ∧ _ := ⟨cell_of_row W5 _ 0 _ _ (0, 0) hQ, cell_of_row W5 _ 1 _ _ (0, 0) hQ, cell_of_row W5 _ 2 _ _ (0, 0) hQ, cell_of_row W5 _ 3 _ _ (0, 0) hQ, cell_of_row W5 _ 4 _ _ (0, 0) hQ, cell_of_row W5 _ 5 _ _ (0, 0) hQ, cell_of_row W5 _ 6 _ _ (0, 0) hQ, cell_of_row W5 _ 7 _ _ (0, 0) hQ⟩
          clear hW5 hb5 hQ hQe HT4 HB4
          have hrow3 := HT3.out
          have hz3 : w3.heap.size ≤ W5.heap.size := HBa.out.size
          have hkn : k ≤ 1000000 := by omega
          go_wp2_with (at_builtin; refine wpList_append_own_at _ rfl _ _ 22 rfl w3.heap.size 30 i1 _ 8 80 Try.underlying22 HI.out.1 HI.out.2.1 HI.out.2.2.1 HI.out.2.2.2 rfl (by decide) _ _ _ rfl (hrow3.alloc _) ⟨W5.heap.size, 0, none⟩ 1 1 (E8.cells q).toList rfl rfl (cells8_new W5 q _) (Ev.cells8_one _) (by unfold maxLen; omega) (by omega) (by simp; omega) ?_; intro v6 w6 hown6 hg6 _ _)
          have hB6 := below_push HBa.out hz3 hrow3 hg6
          refine ⟨⟨k + 1, xs ++ [q], by go_num, by omega, by simp [HPK.out], Lib.hid (hG.out.trans (HOk.out q rfl)), by rw [evs_snoc]; exact hown6, hB6⟩, by simp [intOf]; omega⟩
        · have he2 : (e == 0) = false := by simpa using he
          have HX2 : Hid (U = ([], k + 1, e)) := Lib.hid (by rw [HX.out, hG.out]; exact HBd.out q e he rfl)
          clear HX HOk HBd hG hk HV3 HSz
          have hB9 : ∀ o, Below W.heap.size W (w4.alloc o) := fun o => (HB3.out.trans (HB4.out.mono HB3.out.size)).alloc (Nat.le_trans HB3.out.size HB4.out.size) o
          go_wp2
          refine bodyPost_ret (results_tmp3 rfl _ _ _) rfl ?_
          refine ⟨⟨.slice none 0 0, ?_, by rw [HX2.out]; exact World.ownsRow_nil _ _ _ _⟩, hB9 _⟩
          rw [HX2.out]; rfl
      · obtain rfl : k = n := by omega
        have HX2 : Hid (U = (xs, 0, 0)) := Lib.hid (by rw [HX.out, hG.out, List.drop_of_length_le (by have := HNe.out; omega)]; exact glueF_end xs k)
        clear HX hG
        go_wp2
        refine bodyPost_ret (results_tmp3 rfl _ _ _) rfl ?_
        refine ⟨⟨.slice Al k cl, ?_, by rw [HX2.out, HPK.out]; exact own_base HT.out HB3.out.size⟩, HB3.out.trans (HB.out.mono HB3.out.size)⟩
        rw [HX2.out]; rfl
  · have he2 : (e == 0) = false := by simpa using he
    have HX : Hid (U = ([], 0, e)) := Lib.hid (by rw [HU.out, HEe.out, if_pos he])
    clear HU HEe HV3 HSz
    go_wp2_with fail
    refine (HE.out _ HR3.out).mono ?_
    rintro _ w4 ⟨rfl, hR4, hO4⟩
    have HB4 := Lib.hid (Only.below HB3.out hO4 (by rw [HRe.out]; exact Nat.le_refl _) HB3.out.size)
    clear hR4 hO4
    go_wp2
    refine bodyPost_ret (results_tmp3 rfl _ _ _) rfl ?_
    exact ⟨⟨.slice none 0 0, by rw [HX.out]; rfl, by rw [HX.out]; exact World.ownsRow_nil _ _ _ _⟩, HB4.out⟩
end Go.Proofs.Ythamemaomedldaa.Rd
