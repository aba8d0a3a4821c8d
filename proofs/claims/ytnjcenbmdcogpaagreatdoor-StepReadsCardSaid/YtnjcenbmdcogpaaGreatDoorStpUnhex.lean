import Derived.Test.YtnjcenbmdcogpaaGreatDoorHexA
import Derived.Test.YtnjcenbmdcogpaaGreatDoorStpL
import Derived.Test.YtnjcenbmdcogpaaGreatDoorShaVals
import Derived.Deep.QuietTactic
import Derived.BigQuiet
/- Steps: data of hexadecimal digits, by the program. -/
namespace Go.Proofs.YtnjcenbmdcogpaaGreatDoor.Sp
open Go Go.Lib Go.RowKit

def hexD : ByteArray := ⟨#[48, 49, 50, 51, 52, 53, 54, 55, 56, 57, 97, 98, 99, 100, 101, 102]⟩
def nz (c : UInt8) : Int := if nib c ≤ 15 then (nib c : Int) else -1
set_option maxRecDepth 100000 in
theorem ixb_fin : ∀ n : Fin 256, indexByte [48, 49, 50, 51, 52, 53, 54, 55, 56, 57, 97, 98, 99, 100, 101, 102] (UInt8.ofNat n.val) = nz (UInt8.ofNat n.val) := by decide +kernel
theorem ixb_nib (c : UInt8) : indexByte [48, 49, 50, 51, 52, 53, 54, 55, 56, 57, 97, 98, 99, 100, 101, 102] c = nz c := by
  have := ixb_fin ⟨c.toNat, c.toNat_lt⟩
  simpa only [UInt8.ofNat_toNat] using this
theorem ixh_any (c : UInt8) (w : World) : Calls Tryz.prog 80 #[.string ⟨#[48, 49, 50, 51, 52, 53, 54, 55, 56, 57, 97, 98, 99, 100, 101, 102]⟩, .int .u8 (c.toNat : Int)] w fun e w' => e = .returned (.int .i64 (nz c)) ∧ w' = w := by
  refine (ixb_any ⟨#[48, 49, 50, 51, 52, 53, 54, 55, 56, 57, 97, 98, 99, 100, 101, 102]⟩ (c.toNat : Int) w).mono fun e w' h => ⟨?_, h.2⟩
  rw [h.1, Int.toNat_natCast, UInt8.ofNat_toNat]
  exact congrArg (fun n => Ending.returned (.int .i64 n)) (ixb_nib c)
def bv (l : Bs) : List Int := l.map fun b => (b.toNat : Int)
theorem bv_str (l : Bs) : strOfNums (bv l) = ⟨l.toArray⟩ := by
  unfold strOfNums bv
  rw [List.map_map]
  have : ((fun n : Int => UInt8.ofNat n.toNat) ∘ fun b : UInt8 => (b.toNat : Int)) = id := by funext b; simp
  rw [this, List.map_id]
theorem vals_snoc (l : Bs) (x : UInt8) : Sha.vals (bv (l ++ [x])) = Sha.vals (bv l) ++ [.int .u8 (x.toNat : Int)] := by simp [Sha.vals, bv]
theorem vals_len (l : Bs) : (Sha.vals (bv l)).length = l.length := by simp [Sha.vals, bv]
theorem drop2 (l : Bs) (p : Nat) (h : p + 1 < l.length) : l.drop p = l.getD p 0 :: l.getD (p + 1) 0 :: l.drop (p + 2) := by
  rw [List.drop_eq_getElem_cons (by omega), List.drop_eq_getElem_cons h]
  rw [List.getD_eq_getElem?_getD, List.getElem?_eq_getElem (by omega), List.getD_eq_getElem?_getD, List.getElem?_eq_getElem h]; rfl
theorem infoU8 : (Tryz.prog.info? 5).map (fun i => (i.zero, i.size, i.bytes)) = some (some (.int .u8 0), 1, 1) := by kernel_rfl
theorem news_u8 (W : World) (x : Int) : ∀ j u, ([.int .u8 x] : List Value)[j]? = some u → (W.alloc (.cells #[.int .u8 x] 5)).cell? ((⟨W.heap.size, 0, none⟩ : Addr).add j) = some u := by
  intro j u hj
  match j, hj with
  | 0, hj => simp at hj; subst hj; simp [Addr.add]
theorem one_u8 (x : Int) : ∀ u ∈ ([.int .u8 x] : List Value), u.oneCell' = true := by intro u hu; simp at hu; subst hu; rfl
theorem hl_fin : ∀ a b : Fin 16, ((UInt8.ofNat (16 * a.val + b.val)).toNat : Int) = bits .or .i64 (wrap64 ((a.val : Int) * 16)) (b.val : Int) % 256 := by decide +kernel
theorem hl_or (a b : Nat) (ha : a ≤ 15) (hb : b ≤ 15) : ((UInt8.ofNat (16 * a + b)).toNat : Int) = bits .or .i64 (wrap64 ((a : Int) * 16)) (b : Int) % 256 := hl_fin ⟨a, by omega⟩ ⟨b, by omega⟩
theorem drewN_b0 (w : World) (n B : Nat) : Below B w (w.drewN n) := ⟨rfl, rfl, rfl, Nat.le_refl _, fun _ _ => rfl⟩

set_option maxRecDepth 100000 in
set_option maxHeartbeats 1000000 in
theorem unhex_any (s : ByteArray) (hs : s.size ≤ 1000000) (w : World) :
    Calls Tryz.prog 48 #[.string s] w fun e w' => e = .returned (.string ⟨(unhexL s.data.toList).toArray⟩) ∧ Below w.heap.size w w' := by
  obtain ⟨i0, hinf, hy0, hy1, hy2⟩ := info_parts infoU8
  have HI := Lib.hid (And.intro hinf (And.intro hy0 (And.intro hy1 hy2)))
  have HLen := Lib.hid (show s.data.toList.length = s.size by simp)
  clear hinf hy0 hy1 hy2
  go_enter Tryz.func48, Tryz.ntmps48
  go_wp2_with fail
  go_loopw [3, 4] (fun v i wr => ∃ (q : Nat) (xs : Bs), i = .int .i64 (q : Int) ∧ q % 2 = 1 ∧ q ≤ s.size + 1 ∧ xs.length ≤ q ∧ wr.ownsRow w.heap.size 5 1 v xs.length (Sha.vals (bv xs)) ∧ Below w.heap.size w wr ∧ Hid (unP s.data.toList = (unP (s.data.toList.drop (q - 1))).map (xs ++ ·))) (fun _ i _ => s.size + 1 - (RowKit.intOf i).toNat)
  case atStart => exact ⟨1, [], rfl, rfl, by omega, by simp, World.ownsRow_nil _ _ _ _, Below.refl _ _, Lib.hid (by simp)⟩
  case round =>
    obtain ⟨q, xs, rfl, hodd, hq, hxl, hown, hB, HU⟩ := hrel
    obtain ⟨A1, c1, rfl⟩ := own_form hown
    have HW := Lib.hid hown
    have HO := Lib.hid hodd
    have HXL := Lib.hid hxl
    clear hown hodd hxl
    obtain ⟨p, hp⟩ : ∃ p, q = p + 1 := ⟨q - 1, by have := HO.out; omega⟩
    have hU := HU.out
    rw [show q - 1 = p by omega] at hU
    have HU2 := Lib.hid hU
    have e1 : (q : Int) - 1 = (p : Int) := by omega
    have q0 : (0 : Int) ≤ (q : Int) := by omega
    clear hU HU
    rcases Nat.lt_or_ge q s.size with hlt | hge
    · have hlti : (q : Int) < (s.size : Int) := by omega
      have hd := drop2 s.data.toList p (by rw [HLen.out]; omega)
      have hx1 := fun W => ix_str s p (by omega) W
      have hx2 := fun W => ix_str s q hlt W
      rw [show p + 1 = q by omega] at hd
      rw [show p + 2 = q + 1 by omega] at hd
      generalize s.data.toList.getD p 0 = x at *
      generalize s.data.toList.getD q 0 = y at *
      have HD := Lib.hid hd
      have HP := Lib.hid hp
      clear hd hp hlt
      have hcx := fun W => ixh_any x W
      have hcy := fun W => ixh_any y W
      by_cases hn : nib x ≤ 15 ∧ nib y ≤ 15
      · obtain ⟨n1, n2⟩ := hn
        have z1 : nz x = (nib x : Int) := if_pos n1
        have z2 : nz y = (nib y : Int) := if_pos n2
        rw [z1] at hcx
        rw [z2] at hcy
        have a1 : ¬ (nib x : Int) < 0 := by omega
        have a2 : ¬ (nib y : Int) < 0 := by omega
        have HUP := Lib.hid (show unP (x :: y :: s.data.toList.drop (q + 1)) = (unP (s.data.toList.drop (q + 1))).map (UInt8.ofNat (16 * nib x + nib y) :: ·) by rw [unP, if_neg (by omega)])
        have HN := Lib.hid (And.intro n1 n2)
        clear z1 z2 n1 n2
        generalize nib x = a at *
        generalize nib y = b at *
        go_upto_region 5 with fail
        go_quiet (first
          | (go_at_call 80; exact Calls.quiet_of_same (hcx _))
          | (go_at_call 80; exact Calls.quiet_of_same (hcy _)))
        have HB0 := Lib.hid (hB.trans (drewN_b0 wr nq w.heap.size))
        have HW0 := Lib.hid (own_below HW.out (drewN_b0 wr nq wr.heap.size))
        obtain ⟨W2, hW2⟩ : ∃ W2, W2 = wr.drewN nq := ⟨_, rfl⟩
        rw [← hW2] at HB0 HW0 ⊢
        clear hW2 HW hB hcx hcy hx1 hx2 e1
        have HLq := Lib.hid (show s.data.toList.length ≤ 1000000 by rw [HLen.out]; exact hs)
        have hxq : (q : Int) + 2 ≤ 1000002 := by omega
        have HBy := Lib.hid (hl_or a b HN.out.1 HN.out.2)
        have hxs : xs.length ≤ 1000001 := by have := HXL.out; omega
        go_wp2_with (at_builtin; refine wpList_append_own _ rfl _ _ 75 rfl w.heap.size 5 i0 (.int .u8 0) 1 1 Tryz.underlying75 HI.out.1 HI.out.2.1 HI.out.2.2.1 HI.out.2.2.2 rfl (by decide) _ _ _ rfl (HW0.out.alloc _) ⟨W2.heap.size, 0, none⟩ 1 1 [.int .u8 _] rfl rfl (news_u8 W2 _) (one_u8 _) (by unfold maxLen; omega) (by omega) (by have := HB0.out.size; simp; omega) ?_)
        intro v' w4 hown4 hg4 _
        rw [← HBy.out, ← vals_snoc] at hown4
        have HB4 := Lib.hid (below_push HB0.out HB0.out.size HW0.out hg4)
        have HW4 := Lib.hid hown4
        clear hown4 hg4
        go_wp2
        go_roundw
        case rel =>
          refine ⟨q + 2, xs ++ [UInt8.ofNat (16 * a + b)], by go_num, by have := HO.out; omega, by omega, by have := HXL.out; rw [List.length_append]; simp; omega, by rw [List.length_append]; exact HW4.out, HB4.out, Lib.hid ?_⟩
          rw [HU2.out, HD.out, HUP.out, show q + 2 - 1 = q + 1 by omega]
          cases unP (s.data.toList.drop (q + 1)) with
          | none => rfl
          | some t => simp
        case measure => simp [RowKit.intOf]; omega
      · have HR := Lib.hid (show unhexL s.data.toList = [] by
          unfold unhexL
          rw [HU2.out, HD.out, unP, if_pos (by omega)]; rfl)
        by_cases n1 : nib x ≤ 15
        · have z1 : nz x = (nib x : Int) := if_pos n1
          have z2 : nz y = -1 := if_neg (by omega)
          rw [z1] at hcx
          rw [z2] at hcy
          have a1 : ¬ (nib x : Int) < 0 := by omega
          clear z1 z2 n1 hn
          generalize nib x = a at *
          go_upto_region 5 with fail
          go_quiet (first
            | (go_at_call 80; exact Calls.quiet_of_same (hcx _))
            | (go_at_call 80; exact Calls.quiet_of_same (hcy _)))
          have HB0 := Lib.hid (hB.trans (drewN_b0 wr nq w.heap.size))
          obtain ⟨W2, hW2⟩ : ∃ W2, W2 = wr.drewN nq := ⟨_, rfl⟩
          rw [← hW2] at HB0 ⊢
          clear hW2 HW hB hcx hcy hx1 hx2 e1
          go_wp2
          go_ret
          exact ⟨by rw [HR.out]; rfl, HB0.out⟩
        · have z1 : nz x = -1 := if_neg n1
          rw [z1] at hcx
          clear z1 n1 hn
          generalize nz y = b at *
          go_upto_region 5 with fail
          go_quiet (first
            | (go_at_call 80; exact Calls.quiet_of_same (hcx _))
            | (go_at_call 80; exact Calls.quiet_of_same (hcy _)))
          have HB0 := Lib.hid (hB.trans (drewN_b0 wr nq w.heap.size))
          obtain ⟨W2, hW2⟩ : ∃ W2, W2 = wr.drewN nq := ⟨_, rfl⟩
          rw [← hW2] at HB0 ⊢
          clear hW2 HW hB hcx hcy hx1 hx2 e1
          go_wp2
          go_ret
          exact ⟨by rw [HR.out]; rfl, HB0.out⟩
    · have hlti : ¬ (q : Int) < (s.size : Int) := by omega
      have HR := Lib.hid (show unhexL s.data.toList = xs by
        unfold unhexL
        have hl2 : (s.data.toList.drop p).length ≤ 1 := by rw [List.length_drop, HLen.out]; omega
        have : unP (s.data.toList.drop p) = some [] := by
          cases hd : s.data.toList.drop p with
          | nil => rfl
          | cons a t => cases t with
            | nil => rfl
            | cons b t => rw [hd] at hl2; simp at hl2
        rw [HU2.out, this]; simp)
      have hcv := Sha.own_text HW.out
      rw [bv_str] at hcv
      have HB := Lib.hid hB
      clear hge hp e1 HW hB
      go_wp2
      go_ret
      exact ⟨by rw [HR.out]; rfl, HB.out⟩
end Go.Proofs.YtnjcenbmdcogpaaGreatDoor.Sp
