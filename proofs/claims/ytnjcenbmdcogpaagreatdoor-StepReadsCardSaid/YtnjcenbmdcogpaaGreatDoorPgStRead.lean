import Derived.Test.YtnjcenbmdcogpaaGreatDoorStRd
import Derived.Test.YtnjcenbmdcogpaaGreatDoorStRd
import Derived.Test.YtnjcenbmdcogpaaGreatDoorPgP
import Derived.Test.YtnjcenbmdcogpaaGreatDoorStU
import Derived.Test.YtnjcenbmdcogpaaGreatDoorRdL
/- The page's Read: the steps of a script's text. -/
namespace Go.Proofs.YtnjcenbmdcogpaaGreatDoor.Sp
open Go Go.Lib Go.RowKit
set_option linter.unusedSimpArgs false
set_option linter.unusedVariables false

theorem cnt_more (l : Bs) (k : Nat) (h : k < l.length) : (l.take (k + 1)).count 10 = (l.take k).count 10 + if l.getD k 0 = 10 then 1 else 0 := by
  rw [List.take_succ_eq_append_getElem h, List.count_append, List.getD_eq_getElem?_getD, List.getElem?_eq_getElem h]
  simp [List.count_singleton]
set_option maxRecDepth 100000 in
set_option maxHeartbeats 2000000 in
theorem pread_full (s : ByteArray) (hs : s.size ≤ 1000000) (hc : 1024 < s.data.toList.count 10) (w : World) :
    Calls Tryz.prog 24 #[.string s] w fun e w' => e = .returned (.tuple #[.slice none 0 0, .int .i64 0, .int .i64 6]) ∧ Below w.heap.size w w' := by
  have HLen := Lib.hid (show s.data.toList.length = s.size by simp)
  have HC := Lib.hid hc
  have hsz : (s.size : Int) ≤ 1000000 := by omega
  clear hc
  go_enter Tryz.func24, Tryz.ntmps24
  go_wp2_with fail
  go_loopw [5, 6] (fun m i wr => ∃ k : Nat, i = .int .i64 (k : Int) ∧ Hid (m = .int .i64 (((s.data.toList.take k).count 10 : Nat) : Int)) ∧ k ≤ s.size ∧ wr = w) (fun _ i _ => s.size - (RowKit.intOf i).toNat)
  case atStart => exact ⟨0, rfl, Lib.hid (by simp), by omega, rfl⟩
  case round =>
    obtain ⟨k, rfl, hm, hk, rfl⟩ := hrel
    have hmo := hm.out
    obtain ⟨c, hcc⟩ : ∃ c, c = (s.data.toList.take k).count 10 := ⟨_, rfl⟩
    have HCc := Lib.hid hcc
    rw [← hcc] at hmo
    have hcle : c ≤ 1000000 := by
      rw [hcc]
      have h1 := List.count_le_length (a := (10 : UInt8)) (l := s.data.toList.take k)
      rw [List.length_take] at h1; omega
    have c0 : (0 : Int) ≤ (c : Int) := by omega
    have c1 : (c : Int) ≤ 1000000 := by omega
    subst hmo
    clear hcc hm
    have k0 : (0 : Int) ≤ (k : Int) := by omega
    by_cases hlt : k < s.size
    · have hki : (k : Int) < (s.size : Int) := by omega
      have hx1 := fun W => ix_str s k hlt W
      have hM := Lib.hid (cnt_more s.data.toList k (by rw [HLen.out]; exact hlt))
      by_cases h10 : s.data.toList.getD k 0 = 10
      · have hx10 : ((s.data.toList.getD k 0).toNat : Int) = 10 := by rw [h10]; rfl
        rw [hx10] at hx1
        have H10 := Lib.hid h10
        clear h10 hx10
        go_wp2
        exact ⟨⟨k + 1, by go_num, Lib.hid (by rw [hM.out, if_pos H10.out, ← HCc.out]; go_num), by omega, trivial⟩, by simp [RowKit.intOf]; omega⟩
      · have hb : ((((s.data.toList.getD k 0).toNat : Int)) == 10) = false := by
          rw [beq_eq_false_iff_ne]; intro e; apply h10
          have e2 : (s.data.toList.getD k 0).toNat = 10 := by omega
          exact UInt8.toNat_inj.1 e2
        have hb2 : ¬ ((s.data.toList.getD k 0).toNat : Int) = 10 := by simpa using hb
        have H10 := Lib.hid h10
        clear h10
        generalize ((s.data.toList.getD k 0).toNat : Int) = b at hx1 hb hb2
        go_wp2
        exact ⟨⟨k + 1, by go_num, Lib.hid (by rw [hM.out, if_neg H10.out, ← HCc.out]; rfl), by omega, trivial⟩, by simp [RowKit.intOf]; omega⟩
    · obtain rfl : k = s.size := by omega
      have hf : 1024 < c := by rw [HCc.out, List.take_of_length_le (by rw [HLen.out]; exact Nat.le_refl _)]; exact HC.out
      have hfi : (1024 : Int) < (c : Int) := by omega
      go_wp2
      refine bodyPost_ret (results_tmp3 rfl _ _ _) rfl ?_
      exact ⟨rfl, Below.refl _ _⟩
set_option maxRecDepth 100000 in
set_option maxHeartbeats 2000000 in
theorem pread_form (s : ByteArray) (hs : s.size ≤ 1000000) (hc : s.data.toList.count 10 ≤ 1024) (h0 : 0 < s.size) (hf : s.data.toList.getLast? ≠ some 10) (w : World) :
    Calls Tryz.prog 24 #[.string s] w fun e w' => e = .returned (.tuple #[.slice none 0 0, .int .i64 0, .int .i64 3]) ∧ Below w.heap.size w w' := by
  have HLen := Lib.hid (show s.data.toList.length = s.size by simp)
  have HC := Lib.hid hc
  obtain ⟨z, hl, _, hz⟩ := ext_last s h0
  have hzd : s.data.toList.getD (s.size - 1) 0 = z := by
    rw [← hz, List.getD_eq_getElem?_getD, List.getElem?_eq_getElem (by simp; omega)]; rfl
  have hz10 : z ≠ 10 := by intro e; subst e; exact hf hl
  have hxl := fun W => ix_str s (s.size - 1) (by omega) W
  rw [hzd] at hxl
  have hE1 : s.toList.isEmpty = false := by
    rw [ByteArray.toList_eq]
    cases e : s.data.toList with
    | nil => rw [e] at hl; simp at hl
    | cons a b => rfl
  have hE2 : ¬ s.toList = [] := by intro e; rw [e] at hE1; cases hE1
  have hzb : (((z.toNat : Int)) == 10) = false := by
    rw [beq_eq_false_iff_ne]; intro e; apply hz10
    exact UInt8.toNat_inj.1 (show z.toNat = 10 by omega)
  have hzb2 : ¬ (z.toNat : Int) = 10 := by simpa using hzb
  have hwr : IntKind.i64.wrap ((s.size : Int) - 1) = ((s.size - 1 : Nat) : Int) := by rw [show ((s.size - 1 : Nat) : Int) = (s.size : Int) - 1 by omega]; exact IntWalk.i64_in _ ⟨by omega, by omega⟩
  have HZ := Lib.hid (And.intro hxl (And.intro hE1 (And.intro hE2 (And.intro hzb (And.intro hzb2 hwr)))))
  clear hl hz hzd hz10 hxl hE1 hE2 hzb hzb2 hwr hf h0
  have hsz : (s.size : Int) ≤ 1000000 := by omega
  clear hc
  go_enter Tryz.func24, Tryz.ntmps24
  go_wp2_with fail
  go_loopw [5, 6] (fun m i wr => ∃ k : Nat, i = .int .i64 (k : Int) ∧ Hid (m = .int .i64 (((s.data.toList.take k).count 10 : Nat) : Int)) ∧ k ≤ s.size ∧ wr = w) (fun _ i _ => s.size - (RowKit.intOf i).toNat)
  case atStart => exact ⟨0, rfl, Lib.hid (by simp), by omega, rfl⟩
  case round =>
    obtain ⟨k, rfl, hm, hk, rfl⟩ := hrel
    have hmo := hm.out
    obtain ⟨c, hcc⟩ : ∃ c, c = (s.data.toList.take k).count 10 := ⟨_, rfl⟩
    have HCc := Lib.hid hcc
    rw [← hcc] at hmo
    have hcle : c ≤ 1000000 := by
      rw [hcc]
      have h1 := List.count_le_length (a := (10 : UInt8)) (l := s.data.toList.take k)
      rw [List.length_take] at h1; omega
    have c0 : (0 : Int) ≤ (c : Int) := by omega
    have c1 : (c : Int) ≤ 1000000 := by omega
    subst hmo
    clear hcc hm
    have k0 : (0 : Int) ≤ (k : Int) := by omega
    by_cases hlt : k < s.size
    · have hki : (k : Int) < (s.size : Int) := by omega
      have hx1 := fun W => ix_str s k hlt W
      have hM := Lib.hid (cnt_more s.data.toList k (by rw [HLen.out]; exact hlt))
      by_cases h10 : s.data.toList.getD k 0 = 10
      · have hx10 : ((s.data.toList.getD k 0).toNat : Int) = 10 := by rw [h10]; rfl
        rw [hx10] at hx1
        have H10 := Lib.hid h10
        clear h10 hx10
        go_wp2
        exact ⟨⟨k + 1, by go_num, Lib.hid (by rw [hM.out, if_pos H10.out, ← HCc.out]; go_num), by omega, trivial⟩, by simp [RowKit.intOf]; omega⟩
      · have hb : ((((s.data.toList.getD k 0).toNat : Int)) == 10) = false := by
          rw [beq_eq_false_iff_ne]; intro e; apply h10
          have e2 : (s.data.toList.getD k 0).toNat = 10 := by omega
          exact UInt8.toNat_inj.1 e2
        have hb2 : ¬ ((s.data.toList.getD k 0).toNat : Int) = 10 := by simpa using hb
        have H10 := Lib.hid h10
        clear h10
        generalize ((s.data.toList.getD k 0).toNat : Int) = b at hx1 hb hb2
        go_wp2
        exact ⟨⟨k + 1, by go_num, Lib.hid (by rw [hM.out, if_neg H10.out, ← HCc.out]; rfl), by omega, trivial⟩, by simp [RowKit.intOf]; omega⟩
    · obtain rfl : k = s.size := by omega
      have hf : c ≤ 1024 := by rw [HCc.out, List.take_of_length_le (by rw [HLen.out]; exact Nat.le_refl _)]; exact HC.out
      have hfi : ¬ (1024 : Int) < (c : Int) := by omega
      obtain ⟨hxl, hE1, hE2, hzb, hzb2, hwr⟩ := HZ.out
      generalize (z.toNat : Int) = zz at hxl hzb hzb2
      go_wp2
      refine bodyPost_ret (results_tmp3 rfl _ _ _) rfl ?_
      exact ⟨rfl, Below.refl _ _⟩
set_option maxRecDepth 100000 in
set_option maxHeartbeats 2000000 in
theorem pread_go (s : ByteArray) (hs : s.size ≤ 1000000) (hln : ∀ y ∈ lnA [] s.data.toList, y.length ≤ 2000) (hc : s.data.toList.count 10 ≤ 1024) (h0 : 0 < s.size) (hf : s.data.toList.getLast? = some 10) (w : World) :
    Calls Tryz.prog 24 #[.string s] w fun e w' => (∃ v, e = .returned (.tuple #[v, .int .i64 ((eachP 0 (lnA [] s.data.toList)).2.1 : Int), .int .i64 (eachP 0 (lnA [] s.data.toList)).2.2]) ∧ w'.ownsRow w.heap.size 26 8 v (eachP 0 (lnA [] s.data.toList)).1.length (sts (eachP 0 (lnA [] s.data.toList)).1)) ∧ Below w.heap.size w w' := by
  obtain ⟨i0, hi, hz0, hz1, hz2⟩ := info_parts infoSt
  have HI := Lib.hid (And.intro hi (And.intro hz0 (And.intro hz1 hz2)))
  obtain ⟨L, hL⟩ : ∃ L, L = lnA [] s.data.toList := ⟨_, rfl⟩
  have HL := Lib.hid hL
  have HLn := Lib.hid hln
  rw [← hL]
  clear hi hz0 hz1 hz2 hL hln
  have HLen := Lib.hid (show s.data.toList.length = s.size by simp)
  have HC := Lib.hid hc
  obtain ⟨z, hl, _, hz⟩ := ext_last s h0
  have hzd : s.data.toList.getD (s.size - 1) 0 = z := by
    rw [← hz, List.getD_eq_getElem?_getD, List.getElem?_eq_getElem (by simp; omega)]; rfl
  have hz10 : z = 10 := by rw [hl] at hf; exact Option.some.inj hf
  have hxl := fun W => ix_str s (s.size - 1) (by omega) W
  rw [hzd] at hxl
  have hE1 : s.toList.isEmpty = false := by
    rw [ByteArray.toList_eq]
    cases e : s.data.toList with
    | nil => rw [e] at hl; simp at hl
    | cons a b => rfl
  have hE2 : ¬ s.toList = [] := by intro e; rw [e] at hE1; cases hE1
  subst hz10
  have hwr : IntKind.i64.wrap ((s.size : Int) - 1) = ((s.size - 1 : Nat) : Int) := by rw [show ((s.size - 1 : Nat) : Int) = (s.size : Int) - 1 by omega]; exact IntWalk.i64_in _ ⟨by omega, by omega⟩
  have HZ := Lib.hid (And.intro hxl (And.intro hE1 (And.intro hE2 hwr)))
  clear hl hz hzd hxl hE1 hE2 hwr hf h0
  have hsz : (s.size : Int) ≤ 1000000 := by omega
  clear hc
  go_enter Tryz.func24, Tryz.ntmps24
  go_wp2_with fail
  go_loopw [5, 6] (fun m i wr => ∃ k : Nat, i = .int .i64 (k : Int) ∧ Hid (m = .int .i64 (((s.data.toList.take k).count 10 : Nat) : Int)) ∧ k ≤ s.size ∧ wr = w) (fun _ i _ => s.size - (RowKit.intOf i).toNat)
  case atStart => exact ⟨0, rfl, Lib.hid (by simp), by omega, rfl⟩
  case round =>
    obtain ⟨k, rfl, hm, hk, hww⟩ := hrel
    obtain rfl := hww.symm
    clear hww
    have hmo := hm.out
    obtain ⟨c, hcc⟩ : ∃ c, c = (s.data.toList.take k).count 10 := ⟨_, rfl⟩
    have HCc := Lib.hid hcc
    rw [← hcc] at hmo
    have hcle : c ≤ 1000000 := by
      rw [hcc]
      have h1 := List.count_le_length (a := (10 : UInt8)) (l := s.data.toList.take k)
      rw [List.length_take] at h1; omega
    have c0 : (0 : Int) ≤ (c : Int) := by omega
    have c1 : (c : Int) ≤ 1000000 := by omega
    subst hmo
    clear hcc hm
    have k0 : (0 : Int) ≤ (k : Int) := by omega
    by_cases hlt : k < s.size
    · have hki : (k : Int) < (s.size : Int) := by omega
      have hx1 := fun W => ix_str s k hlt W
      have hM := Lib.hid (cnt_more s.data.toList k (by rw [HLen.out]; exact hlt))
      by_cases h10 : s.data.toList.getD k 0 = 10
      · have hx10 : ((s.data.toList.getD k 0).toNat : Int) = 10 := by rw [h10]; rfl
        rw [hx10] at hx1
        have H10 := Lib.hid h10
        clear h10 hx10
        go_wp2
        exact ⟨⟨k + 1, by go_num, Lib.hid (by rw [hM.out, if_pos H10.out, ← HCc.out]; go_num), by omega, trivial⟩, by simp [RowKit.intOf]; omega⟩
      · have hb : ((((s.data.toList.getD k 0).toNat : Int)) == 10) = false := by
          rw [beq_eq_false_iff_ne]; intro e; apply h10
          have e2 : (s.data.toList.getD k 0).toNat = 10 := by omega
          exact UInt8.toNat_inj.1 e2
        have hb2 : ¬ ((s.data.toList.getD k 0).toNat : Int) = 10 := by simpa using hb
        have H10 := Lib.hid h10
        clear h10
        generalize ((s.data.toList.getD k 0).toNat : Int) = b at hx1 hb hb2
        go_wp2
        exact ⟨⟨k + 1, by go_num, Lib.hid (by rw [hM.out, if_neg H10.out, ← HCc.out]; rfl), by omega, trivial⟩, by simp [RowKit.intOf]; omega⟩
    · obtain rfl : k = s.size := by omega
      have hf : c ≤ 1024 := by rw [HCc.out, List.take_of_length_le (by rw [HLen.out]; exact Nat.le_refl _)]; exact HC.out
      have hfi : ¬ (1024 : Int) < (c : Int) := by omega
      obtain ⟨hxl, hE1, hE2, hwr⟩ := HZ.out
      have hten : (((10 : UInt8).toNat : Nat) : Int) = 10 := rfl
      rw [hten] at hxl
      clear HCc HC HLen
      go_wp2_with fail
      clear hxl hE1 hE2 hwr hf hfi hcle c0 c1 hten hlt hk k0
      go_loopw [7, 8, 9] (fun l f i wr => ∃ (k fr : Nat) (xs : List St), i = .int .i64 (k : Int) ∧ f = .int .i64 (fr : Int) ∧ k ≤ s.size ∧ fr ≤ k ∧ xs.length ≤ k ∧ wr.ownsRow w.heap.size 26 8 l xs.length (sts xs) ∧ Below w.heap.size w wr ∧ Hid (eachP 0 L = glueP xs (eachP xs.length (lnA ((s.data.toList.drop fr).take (k - fr)) (s.data.toList.drop k))) ∧ ∀ y ∈ lnA ((s.data.toList.drop fr).take (k - fr)) (s.data.toList.drop k), y.length ≤ 2000)) (fun _ _ i _ => s.size - (RowKit.intOf i).toNat)
      case atStart => exact ⟨0, 0, [], rfl, rfl, by omega, by omega, by simp, World.ownsRow_nil _ _ _ _, Below.refl _ _, Lib.hid ⟨by rw [HL.out]; exact (glueP_nil 0 _).symm, HLn.out⟩⟩
      case round =>
        obtain ⟨k, fr, xs, rfl, rfl, hk, hfr, hxl, hr, hB, HE⟩ := hrel
        obtain ⟨Av, cv, rfl⟩ := own_form8 hr
        have HR := Lib.hid (And.intro hr (And.intro hB hxl))
        have hx6 : xs.length ≤ 1000000 := by omega
        have hxi : (xs.length : Int) ≤ 1000000 := by omega
        have hx0 : (0 : Int) ≤ (xs.length : Int) := by omega
        have k0 : (0 : Int) ≤ (k : Int) := by omega
        have f0 : (0 : Int) ≤ (fr : Int) := by omega
        have fk : (fr : Int) ≤ (k : Int) := by omega
        have ks : (k : Int) ≤ (s.size : Int) := by omega
        clear hr hB hxl
        by_cases hlt : k < s.size
        · have hki : (k : Int) < (s.size : Int) := by omega
          have hx1 := fun W => ix_str s k hlt W
          have hd := drop1 s.data.toList k (by simpa using hlt)
          by_cases h10 : s.data.toList.getD k 0 = 10
          · have hE10 : lnA ((s.data.toList.drop fr).take (k - fr)) (s.data.toList.drop k) = (s.extract fr k).data.toList :: lnA [] (s.data.toList.drop (k + 1)) := by
              rw [hd, h10, lnA, if_pos rfl, ext_data]
            have HE2 := HE.out
            rw [hE10] at HE2
            have hx2 : (s.extract fr k).size ≤ 2000 := by
              have := HE2.2 (s.extract fr k).data.toList (by simp)
              rw [Array.length_toList] at this; exact this
            have HP := Lib.hid (fun W => rparse_any (s.extract fr k) hx2 W)
            have HE3 := Lib.hid HE2
            have hx10 : ((s.data.toList.getD k 0).toNat : Int) = 10 := by rw [h10]; rfl
            rw [hx10] at hx1
            clear HE2 hE10 hx2 h10 hx10 hd
            go_wp2_with fail
            refine (HP.out _).mono ?_
            rintro _ w2 ⟨hp, hb2⟩
            have HB2 := Lib.hid hb2
            clear hb2
            unfold pP at hp
            rw [← parse_strict] at hp
            rcases hp with ⟨q, hq, rfl⟩ | ⟨hq, q, rfl⟩
            · have HOk := Lib.hid (HE3.out.1.trans (glueP_ok xs xs.length _ (lnA [] (s.data.toList.drop (k + 1))) q hq))
              have HLr := Lib.hid (show ∀ y ∈ lnA [] (s.data.toList.drop (k + 1)), y.length ≤ 2000 from fun y hy => HE3.out.2 y (by simp [hy]))
              clear hq HE3 HE
              unfold St.cells
              dsimp only
              go_upto_region 20 with fail
              obtain ⟨W3, hW3⟩ : ∃ X, X = w2.alloc (.cells #[.int .i64 q.k, .int .i64 q.sd, .int .i64 q.n, .int .i64 q.c, .int .i64 q.f, .int .u64 q.s, .int .u64 q.t, .string q.d] 26) := ⟨_, rfl⟩
              rw [← hW3]
              have hb3 : Below w2.heap.size w2 W3 := by rw [hW3]; exact (Below.refl _ _).alloc (Nat.le_refl _) _
              have hQ := heap_alloc_new w2 (.cells #[.int .i64 q.k, .int .i64 q.sd, .int .i64 q.n, .int .i64 q.c, .int .i64 q.f, .int .u64 q.s, .int .u64 q.t, .string q.d] 26)
              rw [← hW3] at hQ
              have HT3 := Lib.hid (own_below (own_below HR.out.1 HB2.out) hb3)
              have hBw := HR.out.2.1.trans (HB2.out.mono HR.out.2.1.size)
              have HB3 := Lib.hid (hBw.trans (hb3.mono hBw.size))
              obtain ⟨Q, hQe⟩ : ∃ Q, Q = w2.heap.size := ⟨_, rfl⟩
              rw [← hQe] at hQ ⊢
              obtain ⟨x0, x1, x2, x3, x4, x5, x6, x7⟩ : _ ∧ _ ∧ _ ∧ _ ∧ _ ∧ _ ∧ _ ∧ _ := ⟨cell_of_row W3 _ 0 _ _ (0, 0) hQ, cell_of_row W3 _ 1 _ _ (0, 0) hQ, cell_of_row W3 _ 2 _ _ (0, 0) hQ, cell_of_row W3 _ 3 _ _ (0, 0) hQ, cell_of_row W3 _ 4 _ _ (0, 0) hQ, cell_of_row W3 _ 5 _ _ (0, 0) hQ, cell_of_row W3 _ 6 _ _ (0, 0) hQ, cell_of_row W3 _ 7 _ _ (0, 0) hQ⟩
              clear hW3 hb3 hQ hQe hBw
              have hz3 : w.heap.size ≤ W3.heap.size := HB3.out.size
              go_wp2_with (at_builtin; refine wpList_append_own_at _ rfl _ _ 28 rfl w.heap.size 26 i0 _ 8 72 Tryz.underlying28 HI.out.1 HI.out.2.1 HI.out.2.2.1 HI.out.2.2.2 rfl (by decide) _ _ _ rfl (HT3.out.alloc _) ⟨W3.heap.size, 0, none⟩ 1 1 (St.cells q).toList rfl rfl (cells8_new W3 q _) (cells8_all _) (by unfold maxLen; omega) (by omega) (by simp; omega) ?_; intro v4 w4 hown4 hg4 _ _)
              have hB4 := below_push HB3.out hz3 HT3.out hg4
              exact ⟨⟨k + 1, k + 1, xs ++ [q], by go_num, by go_num, by omega, by omega, by have := HR.out.2.2; simp; omega, by rw [sts_snoc, List.length_append]; exact hown4, hB4, Lib.hid (by rw [Nat.sub_self, List.take_zero, List.length_append]; exact ⟨HOk.out, HLr.out⟩)⟩, by simp [RowKit.intOf]; omega⟩
            · have HX : Hid (eachP 0 L = ([], xs.length + 1, 3)) := Lib.hid (by rw [HE3.out.1, glueP_bad _ _ _ _ hq])
              have hB9 : ∀ o, Below w.heap.size w (w2.alloc o) := fun o => ((HR.out.2.1.trans (HB2.out.mono HR.out.2.1.size))).alloc (Nat.le_trans HR.out.2.1.size HB2.out.size) o
              clear hq HE3 HE
              obtain ⟨qk, qsd, qn, qc, qf, qs, qt, qd⟩ := q
              unfold St.cells
              dsimp only
              go_wp2
              refine bodyPost_ret (results_tmp3 rfl _ _ _) rfl ?_
              exact ⟨⟨.slice none 0 0, by rw [HX.out]; rfl, by rw [HX.out]; exact World.ownsRow_nil _ _ _ _⟩, hB9 _⟩
          · have hb : ((((s.data.toList.getD k 0).toNat : Int)) == 10) = false := by
              rw [beq_eq_false_iff_ne]; intro e; apply h10
              have e2 : (s.data.toList.getD k 0).toNat = 10 := by omega
              exact UInt8.toNat_inj.1 e2
            have hb2 : ¬ ((s.data.toList.getD k 0).toNat : Int) = 10 := by simpa using hb
            have htk : (s.data.toList.drop fr).take (k + 1 - fr) = (s.data.toList.drop fr).take (k - fr) ++ [s.data.toList.getD k 0] := by
              rw [show k + 1 - fr = (k - fr) + 1 by omega, List.take_succ_eq_append_getElem (by simp; omega)]
              congr 1
              rw [List.getD_eq_getElem?_getD, List.getElem?_eq_getElem (by simpa using hlt)]
              simp [show fr + (k - fr) = k by omega]
            have HE2 := HE.out
            rw [hd, lnA, if_neg h10, ← htk] at HE2
            have HE3 := Lib.hid HE2
            clear HE2 h10 hd htk
            generalize ((s.data.toList.getD k 0).toNat : Int) = b at hx1 hb hb2
            go_wp2
            exact ⟨⟨k + 1, fr, xs, by go_num, rfl, by omega, by omega, by have := HR.out.2.2; omega, HR.out.1, HR.out.2.1, HE3⟩, by simp [RowKit.intOf]; omega⟩
        · obtain rfl : k = s.size := by omega
          have hE : eachP 0 L = (xs, 0, 0) := by
            have := HE.out.1
            rw [this, List.drop_of_length_le (l := s.data.toList) (i := s.size) (by simp)]; exact glueP_end xs _
          have HEE := Lib.hid hE
          clear hE
          go_wp2
          refine bodyPost_ret (results_tmp3 rfl _ _ _) rfl ?_
          exact ⟨⟨_, by rw [HEE.out]; rfl, by rw [HEE.out]; exact HR.out.1⟩, HR.out.2.1⟩
set_option maxRecDepth 100000 in
theorem pread_nil (w : World) : Calls Tryz.prog 24 #[.string ⟨#[]⟩] w fun e w' => e = .returned (.tuple #[.slice none 0 0, .int .i64 0, .int .i64 0]) ∧ Below w.heap.size w w' := by
  go_enter Tryz.func24, Tryz.ntmps24
  go_wp2_with fail
  refine wp_loop_rounds 1 ?_
  rw [rounds_succ]
  go_wp2
  refine wp_loop_rounds 1 ?_
  rw [rounds_succ]
  go_wp2
  refine bodyPost_ret (results_tmp3 rfl _ _ _) rfl ?_
  exact ⟨rfl, Below.refl _ _⟩
/-- WHICH SCRIPT ANY TEXT IS, by the page. -/
theorem pread_any (s : ByteArray) (hs : s.size ≤ 1000000) (hln : ∀ y ∈ lnA [] s.data.toList, y.length ≤ 2000) (w : World) :
    Calls Tryz.prog 24 #[.string s] w fun e w' => (∃ v, e = .returned (.tuple #[v, .int .i64 ((readS s.data.toList).2.1 : Int), .int .i64 (readS s.data.toList).2.2]) ∧ w'.ownsRow w.heap.size 26 8 v (readS s.data.toList).1.length (sts (readS s.data.toList).1)) ∧ Below w.heap.size w w' := by
  by_cases hn : s.data.toList = []
  · obtain rfl : s = ⟨#[]⟩ := Go.WideShapes.bytes_inj (by rw [hn])
    refine (pread_nil w).mono ?_
    rintro _ w' ⟨rfl, hb⟩
    exact ⟨⟨_, rfl, World.ownsRow_nil _ _ _ _⟩, hb⟩
  have h0 : 0 < s.size := by
    show 0 < s.data.size
    rw [← Array.length_toList]
    exact List.length_pos_iff.2 hn
  unfold readS
  by_cases hc : 1024 < s.data.toList.count 10
  · rw [if_pos hc]
    refine (pread_full s hs hc w).mono ?_
    rintro _ w' ⟨rfl, hb⟩
    exact ⟨⟨_, rfl, World.ownsRow_nil _ _ _ _⟩, hb⟩
  · rw [if_neg hc]
    by_cases hf : s.data.toList ≠ [] ∧ s.data.toList.getLast? ≠ some 10
    · rw [if_pos hf]
      refine (pread_form s hs (by omega) h0 hf.2 w).mono ?_
      rintro _ w' ⟨rfl, hb⟩
      exact ⟨⟨_, rfl, World.ownsRow_nil _ _ _ _⟩, hb⟩
    · rw [if_neg hf]
      exact pread_go s hs hln (by omega) h0 (Classical.byContradiction fun h2 => hf ⟨hn, h2⟩) w
end Go.Proofs.YtnjcenbmdcogpaaGreatDoor.Sp
