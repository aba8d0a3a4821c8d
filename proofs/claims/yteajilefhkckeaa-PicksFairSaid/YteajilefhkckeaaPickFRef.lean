/- The page's In, Missing and Fair. -/
import Derived.Test.YteajilefhkckeaaPickFair
namespace Go.Proofs.Yteajilefhkckeaa.Picks
open Go Go.RowKit picksNext

theorem mem_take_succ (row : List Int) (x : Int) (k : Nat) (h : k < row.length) : x ∈ row.take (k + 1) ↔ x ∈ row.take k ∨ row.getD k 0 = x := by
  rw [take_snoc row k h, List.mem_append, List.mem_singleton]
  constructor
  · rintro (h | rfl)
    · exact .inl h
    · exact .inr rfl
  · rintro (h | rfl)
    · exact .inl h
    · exact .inr rfl

set_option maxRecDepth 100000 in
set_option maxHeartbeats 1000000 in
theorem in_any (A : Option Addr) (n c : Nat) (row : List Int) (x : Int) (w : World) (hrl : row.length = n) (hn : n ≤ 100) (ha : Rd w A n row) :
    Calls Try.prog 33 #[.slice A n c, .int .i64 x] w fun e w' => (∃ b, e = .returned (.bool b) ∧ (b = true ↔ x ∈ row)) ∧ Below w.heap.size w w' := by
  have HA := Lib.hid (And.intro ha hrl)
  clear ha hrl
  go_enter Try.func33, Try.ntmps33
  go_wp2
  go_loopw [5] (fun i wr => ∃ k : Nat, i = .int .i64 (k : Int) ∧ k ≤ n ∧ Hid (Below w.heap.size w wr) ∧ Hid (x ∉ row.take k)) (fun i _ => n - (intOf i).toNat)
  case atStart => exact ⟨0, rfl, Nat.zero_le _, Lib.hid (Below.refl _ _), Lib.hid (by simp)⟩
  case round =>
    obtain ⟨k, rfl, hk, hbw, hni⟩ := hrel
    by_cases hlt : k < n
    · obtain ⟨b, off, hA, hbl, hc⟩ := HA.out.1.below hbw.out (by omega)
      have hck := hc k hlt
      have HM := Lib.hid (mem_take_succ row x k (by have := HA.out.2; omega))
      have HI := Lib.hid (show row.getD k 0 = x → x ∈ row from fun h => by
        rw [← h, List.getD_eq_getElem?_getD, List.getElem?_eq_getElem (by have := HA.out.2; omega)]
        exact List.getElem_mem _)
      obtain ⟨z, hz⟩ : ∃ z, z = row.getD k 0 := ⟨_, rfl⟩
      rw [← hz] at hck HM HI
      subst hA
      have hi0 : (0 : Int) ≤ (k : Int) := by omega
      have hi1 : (k : Int) < (n : Int) := by omega
      clear hc hz hbl
      by_cases hzx : z = x
      · subst hzx
        have HX := Lib.hid (HI.out rfl)
        clear HI HM
        go_wp2
        go_ret
        exact ⟨⟨true, rfl, by simp [HX.out]⟩, hbw.out⟩
      · have hzb : (z == x) = false := by simpa using hzx
        have HN := Lib.hid (show x ∉ row.take (k + 1) from fun h => (HM.out.1 h).elim hni.out hzx)
        clear HI HM
        go_wp2
        exact ⟨⟨k + 1, by go_num, by omega, hbw, HN⟩, by simp [intOf]; omega⟩
    · obtain rfl : n = k := by omega
      have HN := Lib.hid (show x ∉ row by have := hni.out; rwa [List.take_of_length_le (by have := HA.out.2; omega)] at this)
      go_wp2
      go_ret
      exact ⟨⟨false, rfl, by simp [HN.out]⟩, hbw.out⟩

theorem count_mem (row : List Int) (x : Int) : row.count x = 0 ↔ x ∉ row := List.count_eq_zero

set_option maxRecDepth 100000 in
set_option maxHeartbeats 2000000 in
theorem rmissing_any (A B : Option Addr) (n m c d : Nat) (row who : List Int) (w : World) (hrl : row.length = n) (hwl : who.length = m) (hn : n ≤ 100) (hm : m ≤ 100) (ha : Rd w A n row) (hb : Rd w B m who) :
    Calls Try.prog 20 #[.slice A n c, .slice B m d] w fun e w' => ∃ A' r c', e = .returned (.slice A' r c') ∧ r = (miss row who).length ∧ w'.ownsRow w.heap.size 3 1 (.slice A' r c') r (ints (miss row who)) ∧ Below w.heap.size w w' := by
  obtain ⟨i0, hi, hz0, hz1, hz2⟩ := info_parts infoI
  have HA := Lib.hid (And.intro ha hrl)
  have HB := Lib.hid (And.intro hb hwl)
  clear ha hb hrl hwl
  go_enter Try.func20, Try.ntmps20
  go_wp2
  go_loopw [5, 6] (fun vo i wq => ∃ (k r : Nat), i = .int .i64 (k : Int) ∧ k ≤ m ∧ r ≤ k ∧ Hid (Below w.heap.size w wq) ∧ Hid (r = (miss row (who.take k)).length) ∧ Hid (wq.ownsRow w.heap.size 3 1 vo r (ints (miss row (who.take k))))) (fun _ i _ => m - (intOf i).toNat)
  case atStart => exact ⟨0, 0, rfl, Nat.zero_le _, Nat.le_refl _, Lib.hid (Below.refl _ _), Lib.hid rfl, Lib.hid (World.ownsRow_nil _ _ _ _)⟩
  case round =>
    obtain ⟨k, r, rfl, hk, hrk, hbw, hrl, hown⟩ := hrel
    obtain ⟨Ao, co, hvo⟩ := own_form hown.out
    subst hvo
    by_cases hlt : k < m
    · obtain ⟨b, off, hA, hbl, hc⟩ := HB.out.1.below hbw.out (by omega)
      have hck := hc k hlt
      have HSt := Lib.hid (miss_step row who k (by have := HB.out.2; omega))
      obtain ⟨x, hx⟩ : ∃ x, x = who.getD k 0 := ⟨_, rfl⟩
      rw [← hx] at hck HSt
      subst hA
      have hi0 : (0 : Int) ≤ (k : Int) := by omega
      have hi1 : (k : Int) < (m : Int) := by omega
      have HC := Lib.hid (in_any A n c row x wr HA.out.2 hn (HA.out.1.below hbw.out))
      clear hc hx
      go_wp2_with fail
      refine HC.out.mono ?_
      rintro e w4 ⟨⟨b4, rfl, hb4⟩, hbe⟩
      have HO4 := Lib.hid (own_below hown.out hbe)
      have hck4 := (hbe.cell (p := ⟨b, off + k, none⟩) hbl).trans hck
      have HB4 := Lib.hid (And.intro (hbw.out.trans (hbe.mono hbw.out.size)) hb4)
      clear hbe hb4 hbl hck
      cases b4 with
      | true =>
        have HS2 := Lib.hid (show miss row (who.take (k + 1)) = miss row (who.take k) by rw [HSt.out, if_neg (fun h => (count_mem row x).1 h (HB4.out.2.1 rfl)), List.append_nil])
        clear HSt
        go_wp2
        exact ⟨⟨k + 1, r, by go_num, by omega, by omega, Lib.hid HB4.out.1, Lib.hid (by rw [HS2.out]; exact hrl.out), Lib.hid (by rw [HS2.out]; exact HO4.out)⟩, by simp [intOf]; omega⟩
      | false =>
        have HS2 := Lib.hid (show miss row (who.take (k + 1)) = miss row (who.take k) ++ [x] by rw [HSt.out, if_pos ((count_mem row x).2 fun h => by have := HB4.out.2.2 h; cases this)])
        clear HSt
        go_wp2_with (at_builtin; refine wpList_append_own _ rfl _ _ 32 rfl w.heap.size 3 i0 (.int .i64 0) 1 8 Try.underlying32 hi hz0 hz1 (by assumption) rfl (by decide) _ _ _ rfl (World.ownsRow.alloc (HO4.out) _) ⟨w4.heap.size, 0, none⟩ 1 1 [.int .i64 x] rfl rfl (cell_one_new _ _ _) (one_one rfl) (by unfold maxLen; omega) (by omega) (by have := HB4.out.1.size; simp; omega) ?_; intro v5 w5 hown5 hg5 _)
        have hg5' : (w4.alloc (.cells #[.int .i64 x] 3)).grownBy w5 (Value.slice Ao r co).ownBlock := hg5
        have H5 := Lib.hid (And.intro hown5 (below_push HB4.out.1 HB4.out.1.size HO4.out hg5'))
        clear hown5 hg5 hg5'
        go_wp2
        exact ⟨⟨k + 1, r + 1, by go_num, by omega, by omega, Lib.hid H5.out.2, Lib.hid (by rw [HS2.out, List.length_append, ← hrl.out]; rfl), Lib.hid (by rw [HS2.out]; have := H5.out.1; simpa [ints] using this)⟩, by simp [intOf]; omega⟩
    · obtain rfl : m = k := by omega
      have HE := Lib.hid (show who.take m = who from List.take_of_length_le (by have := HB.out.2; omega))
      go_wp2
      go_ret
      have h1 := hrl.out
      have h2 := hown.out
      rw [HE.out] at h1 h2
      exact ⟨Ao, r, co, rfl, h1, h2, hbw.out⟩
end Go.Proofs.Yteajilefhkckeaa.Picks
