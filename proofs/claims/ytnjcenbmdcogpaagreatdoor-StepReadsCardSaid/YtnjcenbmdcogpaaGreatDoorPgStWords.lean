import Derived.Test.YtnjcenbmdcogpaaGreatDoorPgW
import Derived.Laws.Strings
/- The page's steps: the words of a line. -/
namespace Go.Proofs.YtnjcenbmdcogpaaGreatDoor.Sp
open Go Go.Lib Go.RowKit

theorem sp_hit {l : Bs} {f k : Nat} (hk : k < l.length) (h : l.getD k 0 = 32) (hf : f ≤ k) (hn : (32 : UInt8) ∉ (l.drop f).take (k - f)) : sp (l.drop f) = (l.drop f).take (k - f) :: sp (l.drop (k + 1)) := by
  have e : l.drop f = (l.drop f).take (k - f) ++ 32 :: l.drop (k + 1) := by
    have := drop1 l k hk
    rw [h] at this
    rw [← this]
    conv => lhs; rw [← List.take_append_drop (k - f) (l.drop f)]
    rw [List.drop_drop, show f + (k - f) = k by omega]
  conv => lhs; rw [e]
  exact sp_app _ hn
theorem take_more {l : Bs} {f k : Nat} (hk : k < l.length) (h : l.getD k 0 ≠ 32) (hf : f ≤ k) (hn : (32 : UInt8) ∉ (l.drop f).take (k - f)) : (32 : UInt8) ∉ (l.drop f).take (k + 1 - f) := by
  rw [show k + 1 - f = (k - f) + 1 by omega, List.take_succ_eq_append_getElem (by simp; omega)]
  intro hm
  rcases List.mem_append.1 hm with hm | hm
  · exact hn hm
  · simp only [List.mem_singleton] at hm
    apply h
    rw [List.getD_eq_getElem?_getD, List.getElem?_eq_getElem hk]
    simp only [List.getElem_drop] at hm
    simp only [show f + (k - f) = k by omega] at hm
    exact hm.symm
theorem sp_last {l : Bs} {f : Nat} (hn : (32 : UInt8) ∉ (l.drop f).take (l.length - f)) : sp (l.drop f) = [(l.drop f).take (l.length - f)] := by
  rw [List.take_of_length_le (by simp)] at hn ⊢
  exact sp_one hn
theorem ext_data (s : ByteArray) (a b : Nat) : (s.extract a b).data.toList = (s.data.toList.drop a).take (b - a) := by simp [List.extract]
theorem news_s (W : World) (x : ByteArray) : ∀ j u, ([.string x] : List Value)[j]? = some u → (W.alloc (.cells #[.string x] 9)).cell? ((⟨W.heap.size, 0, none⟩ : Addr).add j) = some u := by
  intro j u hj
  match j, hj with
  | 0, hj => simp at hj; subst hj; simp [Addr.add]
theorem one_s (x : ByteArray) : ∀ u ∈ ([.string x] : List Value), u.oneCell' = true := by intro u hu; simp at hu; subst hu; rfl

set_option maxRecDepth 100000 in
set_option maxHeartbeats 1000000 in
theorem words_any (s : ByteArray) (hs : s.size ≤ 1000000) (w : World) :
    Calls Tryz.prog 97 #[.string s] w fun e w' => (∃ (v : Value) (xs : List ByteArray), e = .returned v ∧ w'.ownsRow w.heap.size 9 1 v xs.length (xs.map Value.string) ∧ xs.map (·.data.toList) = sp s.data.toList) ∧ Below w.heap.size w w' := by
  have HLen := Lib.hid (show s.data.toList.length = s.size by simp)
  obtain ⟨i0, hinf, hy0, hy1, hy2⟩ := info_parts infoS
  have HI := Lib.hid (And.intro hinf (And.intro hy0 (And.intro hy1 hy2)))
  clear hinf hy0 hy1 hy2
  go_enter Tryz.func97, Tryz.ntmps97
  go_wp2_with fail
  go_loopw [3, 4, 5] (fun v f i wr => ∃ (k fr : Nat) (xs : List ByteArray), i = .int .i64 (k : Int) ∧ f = .int .i64 (fr : Int) ∧ k ≤ s.size + 1 ∧ fr ≤ k ∧ xs.length ≤ k ∧ wr.ownsRow w.heap.size 9 1 v xs.length (xs.map Value.string) ∧ Below w.heap.size w wr ∧ Hid ((k ≤ s.size ∧ (32 : UInt8) ∉ (s.data.toList.drop fr).take (k - fr) ∧ sp s.data.toList = xs.map (·.data.toList) ++ sp (s.data.toList.drop fr)) ∨ (k = s.size + 1 ∧ sp s.data.toList = xs.map (·.data.toList)))) (fun _ _ i _ => s.size + 1 - (RowKit.intOf i).toNat)
  case atStart => exact ⟨0, 0, [], rfl, rfl, by omega, by omega, by simp, World.ownsRow_nil _ _ _ _, Below.refl _ _, Lib.hid (.inl ⟨by omega, by simp, by simp⟩)⟩
  case round =>
    obtain ⟨k, fr, xs, rfl, rfl, hk, hfr, hxl, hown, hB, HU⟩ := hrel
    obtain ⟨A1, c1, rfl⟩ := own_form hown
    have HW := Lib.hid hown
    have HXL := Lib.hid hxl
    have HB0 := Lib.hid hB
    clear hown hxl hB
    have hsz : (s.size : Int) ≤ 1000000 := by omega
    have k0 : (0 : Int) ≤ (k : Int) := by omega
    have f0 : (0 : Int) ≤ (fr : Int) := by omega
    have hfi : (fr : Int) ≤ (k : Int) := by omega
    have hxs : xs.length ≤ 1000001 := by have := HXL.out; omega
    rcases Nat.lt_or_ge s.size k with hgt | hle
    · have hki : ¬ (k : Int) ≤ (s.size : Int) := by omega
      have HR := Lib.hid (show xs.map (·.data.toList) = sp s.data.toList by
        rcases HU.out with h | h
        · omega
        · exact h.2.symm)
      clear hgt hk hfr
      go_wp2
      go_ret
      exact ⟨⟨_, rfl, xs, HW.out, HR.out⟩, HB0.out⟩
    · have hki : (k : Int) ≤ (s.size : Int) := by omega
      have hu : (32 : UInt8) ∉ (s.data.toList.drop fr).take (k - fr) ∧ sp s.data.toList = xs.map (·.data.toList) ++ sp (s.data.toList.drop fr) := by
        rcases HU.out with h | h
        · exact h.2
        · omega
      have HF := Lib.hid hfr
      by_cases heq : k = s.size
      · subst heq
        have HN := Lib.hid (show sp s.data.toList = (xs ++ [s.extract fr s.size]).map (·.data.toList) by
          have h2 := hu.1
          rw [← HLen.out] at h2
          rw [List.map_append, List.map_singleton, ext_data, hu.2, ← HLen.out, sp_last h2])
        clear hu HU hle hk hfr
        go_wp2_with (at_builtin; refine wpList_append_own _ rfl _ _ 38 rfl w.heap.size 9 i0 (.string ⟨#[]⟩) 1 16 Tryz.underlying38 HI.out.1 HI.out.2.1 HI.out.2.2.1 HI.out.2.2.2 rfl (by decide) _ _ _ rfl (HW.out.alloc _) ⟨wr.heap.size, 0, none⟩ 1 1 [.string _] rfl rfl (news_s wr _) (one_s _) (by unfold maxLen; omega) (by omega) (by have := HB0.out.size; simp; omega) ?_)
        intro v' w4 hown4 hg4 _
        have HB4 := Lib.hid (below_push HB0.out HB0.out.size HW.out hg4)
        have HW4 := Lib.hid hown4
        clear hown4 hg4
        go_wp2
        go_roundw
        case rel => exact ⟨s.size + 1, s.size + 1, xs ++ [s.extract fr s.size], by go_num, by go_num, by omega, by omega, by have := HXL.out; rw [List.length_append]; simp; omega, by rw [List.length_append, List.map_append]; exact HW4.out, HB4.out, Lib.hid (.inr ⟨rfl, HN.out⟩)⟩
        case measure => simp [RowKit.intOf]
      · have hlt : k < s.size := by omega
        have hq : ((k : Int) == (s.size : Int)) = false := by rw [beq_eq_false_iff_ne]; omega
        have hq2 : ¬ (k : Int) = (s.size : Int) := by omega
        have hx1 := fun W => ix_str s k hlt W
        by_cases h32 : s.data.toList.getD k 0 = 32
        · have HN := Lib.hid (show sp s.data.toList = (xs ++ [s.extract fr k]).map (·.data.toList) ++ sp (s.data.toList.drop (k + 1)) by
            rw [List.map_append, List.map_singleton, ext_data, hu.2, sp_hit (by rw [HLen.out]; exact hlt) h32 hfr hu.1]; simp)
          have hx32 : ((s.data.toList.getD k 0).toNat : Int) = 32 := by rw [h32]; rfl
          rw [hx32] at hx1
          have HK := Lib.hid hlt
          clear hu HU hle hk hfr heq h32 hx32 hlt
          go_wp2_with (at_builtin; refine wpList_append_own _ rfl _ _ 38 rfl w.heap.size 9 i0 (.string ⟨#[]⟩) 1 16 Tryz.underlying38 HI.out.1 HI.out.2.1 HI.out.2.2.1 HI.out.2.2.2 rfl (by decide) _ _ _ rfl (HW.out.alloc _) ⟨wr.heap.size, 0, none⟩ 1 1 [.string _] rfl rfl (news_s wr _) (one_s _) (by unfold maxLen; omega) (by omega) (by have := HB0.out.size; simp; omega) ?_)
          intro v' w4 hown4 hg4 _
          have HB4 := Lib.hid (below_push HB0.out HB0.out.size HW.out hg4)
          have HW4 := Lib.hid hown4
          clear hown4 hg4
          go_wp2
          go_roundw
          case rel => exact ⟨k + 1, k + 1, xs ++ [s.extract fr k], by go_num, by go_num, by have := HK.out; omega, by omega, by have := HXL.out; rw [List.length_append]; simp; omega, by rw [List.length_append, List.map_append]; exact HW4.out, HB4.out, Lib.hid (.inl ⟨HK.out, by simp, HN.out⟩)⟩
          case measure => have := HK.out; simp [RowKit.intOf]; omega
        · have HN := Lib.hid (take_more (by rw [HLen.out]; exact hlt) h32 hfr hu.1)
          have HN2 := Lib.hid hu.2
          have hx32 : (((s.data.toList.getD k 0).toNat : Int) == 32) = false := by
            rw [beq_eq_false_iff_ne]; intro e
            exact h32 (UInt8.toNat.inj (by show _ = 32; omega))
          have HK := Lib.hid hlt
          generalize (s.data.toList.getD k 0).toNat = x at *
          clear hu HU hle hk hfr heq h32 hlt
          go_wp2
          go_roundw
          case rel => exact ⟨k + 1, fr, xs, by go_num, rfl, by have := HK.out; omega, by have := HF.out; omega, by have := HXL.out; omega, HW.out, HB0.out, Lib.hid (.inl ⟨HK.out, HN.out, HN2.out⟩)⟩
          case measure => have := HK.out; simp [RowKit.intOf]; omega
end Go.Proofs.YtnjcenbmdcogpaaGreatDoor.Sp
