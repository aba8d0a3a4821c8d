/- The page's steps: data of digits. -/
import Derived.Test.YtnjcenbmdcogpaaDoorPgStSmall
namespace Go.Proofs.YtnjcenbmdcogpaaDoor.Sp
open Go Go.Lib Go.RowKit

def byE (l : Bs) : Ending := .returned (.tuple #[.string ⟨((bytesL l).getD []).toArray⟩, .bool (bytesL l).isSome])
theorem mul_fin : ∀ a b : Fin 16, ((UInt8.ofNat (16 * a.val + b.val)).toNat : Int) = 16 * (a.val : Int) + (b.val : Int) := by decide +kernel
theorem mul_or (a b : Nat) (ha : a ≤ 15) (hb : b ≤ 15) : ((UInt8.ofNat (16 * a + b)).toNat : Int) = 16 * (a : Int) + (b : Int) := mul_fin ⟨a, by omega⟩ ⟨b, by omega⟩
set_option maxRecDepth 100000 in
set_option maxHeartbeats 1000000 in
theorem bytes_any (s : ByteArray) (hs : s.size ≤ 1000000) (w : World) :
    Calls Tryd.prog 22 #[.string s] w fun e w' => e = byE s.data.toList ∧ Below w.heap.size w w' := by
  have HLen := Lib.hid (show s.data.toList.length = s.size by simp)
  by_cases h45 : s = ⟨#[45]⟩
  · subst h45
    go_enter Tryd.func22, Tryd.ntmps22
    go_wp2
    go_ret2
    exact ⟨rfl, Below.refl _ _⟩
  have n45 : s.data.toList ≠ [45] := fun e => h45 (Go.WideShapes.bytes_inj e)
  have f45 : (s.toList == [45]) = false := by rw [beq_eq_false_iff_ne, ByteArray.toList_eq]; exact n45
  clear h45
  by_cases hne : s.data.toList = []
  · obtain rfl : s = ⟨#[]⟩ := Go.WideShapes.bytes_inj hne
    go_enter Tryd.func22, Tryd.ntmps22
    go_wp2
    go_ret2
    exact ⟨rfl, Below.refl _ _⟩
  have e1 : ¬ s.toList = [] := by rw [ByteArray.toList_eq]; exact hne
  have e2 : s.toList.isEmpty = false := by rw [List.isEmpty_eq_false_iff]; exact e1
  by_cases hodd : s.size % 2 = 1
  · have HE := Lib.hid (show byE s.data.toList = .returned (.tuple #[.string ⟨#[]⟩, .bool false]) by unfold byE bytesL; rw [if_neg n45, if_pos (.inr (by rw [HLen.out]; exact hodd))]; rfl)
    have h1 : ((s.size : Int).tmod 2 == 1) = true := by rw [Int.tmod_eq_emod_of_nonneg (by omega)]; simp; omega
    have h2 : (s.size : Int) % 2 = 1 := by omega
    clear n45 hne hodd
    go_enter Tryd.func22, Tryd.ntmps22
    go_wp2
    go_ret2
    exact ⟨by rw [HE.out]; rfl, Below.refl _ _⟩
  have HE := Lib.hid (show byE s.data.toList = .returned (.tuple #[.string ⟨((unP s.data.toList).getD []).toArray⟩, .bool (unP s.data.toList).isSome]) by unfold byE bytesL; rw [if_neg n45, if_neg (fun h => h.elim hne (fun h => hodd (by rw [HLen.out] at h; exact h)))])
  have h1 : ((s.size : Int).tmod 2 == 1) = false := by rw [Int.tmod_eq_emod_of_nonneg (by omega), beq_eq_false_iff_ne]; omega
  have h2 : ¬ (s.size : Int) % 2 = 1 := by omega
  have h3 : ((s.size : Int) % 2 == 1) = false := by rw [beq_eq_false_iff_ne]; omega
  have HEv := Lib.hid (show s.size % 2 = 0 by omega)
  obtain ⟨i0, hinf, hy0, hy1, hy2⟩ := info_parts infoU8
  have HI := Lib.hid (And.intro hinf (And.intro hy0 (And.intro hy1 hy2)))
  clear hinf hy0 hy1 hy2 n45 hne hodd
  go_enter Tryd.func22, Tryd.ntmps22
  go_wp2_with fail
  clear e1 e2 f45 h1 h2 h3
  go_loopw [4, 5] (fun v i wr => ∃ (p : Nat) (xs : Bs), i = .int .i64 (p : Int) ∧ p % 2 = 0 ∧ p ≤ s.size ∧ xs.length ≤ p ∧ wr.ownsRow w.heap.size 5 1 v xs.length (Sha.vals (bv xs)) ∧ Below w.heap.size w wr ∧ Hid (unP s.data.toList = (unP (s.data.toList.drop p)).map (xs ++ ·))) (fun _ i _ => s.size - (RowKit.intOf i).toNat)
  case atStart => exact ⟨0, [], rfl, rfl, by omega, by simp, World.ownsRow_nil _ _ _ _, Below.refl _ _, Lib.hid (by simp)⟩
  case round =>
    obtain ⟨p, xs, rfl, hodd, hq, hxl, hown, hB, HU2⟩ := hrel
    obtain ⟨A1, c1, rfl⟩ := own_form hown
    have HW := Lib.hid hown
    have HO := Lib.hid hodd
    have HXL := Lib.hid hxl
    have HB0 := Lib.hid hB
    clear hown hodd hxl hB
    have p0 : (0 : Int) ≤ (p : Int) := by omega
    rcases Nat.lt_or_ge p s.size with hlt | hge
    · have hlt1 : p + 1 < s.size := by have := HEv.out; have := HO.out; omega
      have hlti : (p : Int) < (s.size : Int) := by omega
      have hd := drop2 s.data.toList p (by rw [HLen.out]; omega)
      have hx1 := fun W => ix_str s p hlt W
      have hx2 := fun W => ix_str s (p + 1) hlt1 W
      obtain ⟨q, hqp⟩ : ∃ q, p + 1 = q := ⟨_, rfl⟩
      rw [hqp] at hx2 hd
      rw [show p + 2 = q + 1 by omega] at hd
      generalize s.data.toList.getD p 0 = x at *
      generalize s.data.toList.getD q 0 = y at *
      have e1 : (p : Int) + 1 = (q : Int) := by omega
      have hqs : (q : Int) < (s.size : Int) := by omega
      have HD := Lib.hid hd
      have HP := Lib.hid hqp
      have hsz : (s.size : Int) ≤ 1000000 := by omega
      clear hd hlt hlt1 hqp
      have hcx := nibble_any x wr
      have hcy := nibble_any y wr
      by_cases hn : nib x ≤ 15 ∧ nib y ≤ 15
      · obtain ⟨n1, n2⟩ := hn
        have a1 : ¬ (15 : Int) < (nib x : Int) := by omega
        have a2 : ¬ (15 : Int) < (nib y : Int) := by omega
        have a3 : (nib x : Int) ≤ 15 := by omega
        have a4 : (nib y : Int) ≤ 15 := by omega
        have a5 : (0 : Int) ≤ (nib x : Int) := by omega
        have a6 : (0 : Int) ≤ (nib y : Int) := by omega
        have HUP := Lib.hid (show unP (x :: y :: s.data.toList.drop (q + 1)) = (unP (s.data.toList.drop (q + 1))).map (UInt8.ofNat (16 * nib x + nib y) :: ·) by rw [unP, if_neg (by omega)])
        have HBy := Lib.hid (mul_or (nib x) (nib y) n1 n2)
        clear n1 n2
        generalize nib x = a at *
        generalize nib y = b at *
        go_wp2_with fail
        refine hcx.mono ?_
        rintro _ w1 ⟨rfl, hw1⟩
        obtain rfl := hw1.symm
        go_wp2_with fail
        refine hcy.mono ?_
        rintro _ w2 ⟨rfl, hw2⟩
        obtain rfl := hw2.symm
        clear hcx hcy hx1 hx2 e1
        have hxs : xs.length ≤ 1000000 := by have := HXL.out; omega
        go_wp2_with (at_builtin; refine wpList_append_own _ rfl _ _ 62 rfl w.heap.size 5 i0 (.int .u8 0) 1 1 Tryd.underlying62 HI.out.1 HI.out.2.1 HI.out.2.2.1 HI.out.2.2.2 rfl (by decide) _ _ _ rfl (HW.out.alloc _) ⟨wr.heap.size, 0, none⟩ 1 1 [.int .u8 _] rfl rfl (news_u8 wr _) (one_u8 _) (by unfold maxLen; omega) (by omega) (by have := HB0.out.size; simp; omega) ?_)
        intro v' w4 hown4 hg4 _
        rw [← HBy.out, ← vals_snoc] at hown4
        have HB4 := Lib.hid (below_push HB0.out HB0.out.size HW.out hg4)
        have HW4 := Lib.hid hown4
        clear hown4 hg4
        go_wp2
        go_roundw
        case rel =>
          refine ⟨p + 2, xs ++ [UInt8.ofNat (16 * a + b)], by go_num, by have := HO.out; omega, by have := HP.out; omega, by have := HXL.out; rw [List.length_append]; simp; omega, by rw [List.length_append]; exact HW4.out, HB4.out, Lib.hid ?_⟩
          rw [HU2.out, HD.out, HUP.out, show p + 2 = q + 1 by have := HP.out; omega]
          cases unP (s.data.toList.drop (q + 1)) with
          | none => rfl
          | some t => simp
        case measure => simp [RowKit.intOf]; omega
      · have HR := Lib.hid (show byE s.data.toList = .returned (.tuple #[.string ⟨#[]⟩, .bool false]) by
          rw [HE.out, HU2.out, HD.out, unP, if_pos (by omega)]; rfl)
        by_cases n1 : nib x ≤ 15
        · have a1 : ¬ (15 : Int) < (nib x : Int) := by omega
          have a2 : (15 : Int) < (nib y : Int) := by omega
          clear n1 hn
          generalize nib x = a at *
          generalize nib y = b at *
          go_wp2_with fail
          refine hcx.mono ?_
          rintro _ w1 ⟨rfl, hw1⟩
          obtain rfl := hw1.symm
          go_wp2_with fail
          refine hcy.mono ?_
          rintro _ w2 ⟨rfl, hw2⟩
          obtain rfl := hw2.symm
          clear hcx hcy hx1 hx2 e1
          go_wp2
          go_ret2
          exact ⟨by rw [HR.out]; rfl, HB0.out⟩
        · have a1 : (15 : Int) < (nib x : Int) := by omega
          clear n1 hn
          generalize nib x = a at *
          generalize nib y = b at *
          go_wp2_with fail
          refine hcx.mono ?_
          rintro _ w1 ⟨rfl, hw1⟩
          obtain rfl := hw1.symm
          go_wp2_with fail
          refine hcy.mono ?_
          rintro _ w2 ⟨rfl, hw2⟩
          obtain rfl := hw2.symm
          clear hcx hcy hx1 hx2 e1
          go_wp2
          go_ret2
          exact ⟨by rw [HR.out]; rfl, HB0.out⟩
    · obtain rfl : p = s.size := by omega
      have HR := Lib.hid (show byE s.data.toList = .returned (.tuple #[.string ⟨xs.toArray⟩, .bool true]) by
        have : s.data.toList.drop s.size = [] := List.drop_eq_nil_of_le (by rw [HLen.out]; omega)
        rw [HE.out, HU2.out, this]; simp [unP])
      have hcv := Sha.own_text HW.out
      rw [bv_str] at hcv
      clear hge HW
      go_wp2
      go_ret2
      exact ⟨by rw [HR.out]; rfl, HB0.out⟩
end Go.Proofs.YtnjcenbmdcogpaaDoor.Sp
