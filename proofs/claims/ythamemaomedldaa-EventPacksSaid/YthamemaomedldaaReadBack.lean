/- What was put is read as it was; how a reader ends. -/
import Derived.Test.YthamemaomedldaaReaderText
import Derived.Laws.Strings
namespace Go.Proofs.Ythamemaomedldaa.Rd
open Go Go.RowKit Num Texts

theorem val_dig (n : Nat) : val (bytesOf (dig n)) = n := by
  induction n using Nat.strongRecOn with
  | _ n ih =>
    by_cases h : n = 0
    · subst h; rw [dig_zero]; rfl
    · have e : bytesOf (dig n) = bytesOf (dig (n / 256)) ++ [UInt8.ofNat (n % 256)] := by
        rw [dig_pos h, ← dig_byte]; unfold bytesOf; rw [List.map_append]
      rw [e, val_snoc, ih _ (by omega), UInt8.toNat_ofNat']
      omega
theorem dig_head (n : Nat) (h : n ≠ 0) (x : List UInt8) : ((bytesOf (dig n) ++ x).getD 0 0).toNat ≠ 0 := by
  induction n using Nat.strongRecOn generalizing x with
  | _ n ih =>
    have e : bytesOf (dig n) = bytesOf (dig (n / 256)) ++ [UInt8.ofNat (n % 256)] := by
      rw [dig_pos h, ← dig_byte]; unfold bytesOf; rw [List.map_append]
    rw [e, List.append_assoc]
    by_cases hq : n / 256 = 0
    · rw [hq, dig_zero]
      show (UInt8.ofNat (n % 256)).toNat ≠ 0
      rw [UInt8.toNat_ofNat']
      omega
    · exact ih _ (by omega) hq _
theorem ext_list {a b : ByteArray} (h : a.data.toList = b.data.toList) : a = b := by
  apply ByteArray.ext
  exact Array.toList_inj.1 h
theorem num_back (m x : Nat) (s rest : ByteArray) (hx : x < 18446744073709551616) (hm : x ≤ m) (hs : s.data.toList = (numS x).data.toList ++ rest.data.toList) : numR m s = (x, 0, rest) := by
  have hl := dig_len (m := x) (k := 8) (Nat.lt_of_lt_of_le hx (by decide))
  rw [numS_list, List.cons_append] at hs
  have hsz : s.size = (dig x).length + 1 + rest.size := by
    have := congrArg List.length hs
    simp only [Array.length_toList, List.length_cons, List.length_append, bytesOf, List.length_map] at this
    show s.data.size = _
    rw [this]
    show _ = _ + rest.data.size
    omega
  have h0 : (s.data.toList.getD 0 0).toNat = (dig x).length := by
    rw [hs, List.getD_cons_zero, UInt8.toNat_ofNat']; omega
  have hval : val ((s.data.toList.drop 1).take (dig x).length) = x := by
    rw [hs, List.drop_succ_cons, List.drop_zero, List.take_append_of_le_length (by simp [bytesOf]), List.take_of_length_le (by simp [bytesOf]), val_dig]
  have hex : s.extract (1 + (dig x).length) s.size = rest := by
    apply ext_list
    rw [Lib.extract_data, hs, Nat.add_comm 1, List.drop_succ_cons, List.drop_append_of_le_length (by simp [bytesOf]), List.drop_of_length_le (by simp [bytesOf]), List.nil_append, List.take_of_length_le]
    rw [Array.length_toList]
    show rest.size ≤ _
    omega
  unfold numR
  rw [if_neg (by omega)]
  dsimp only
  rw [h0, if_neg ?_, if_neg (by omega), hval, if_neg (by omega), hex]
  rintro (h | ⟨h1, h2, h3⟩)
  · omega
  · have hx0 : x ≠ 0 := by rintro rfl; rw [dig_zero] at h1; exact Nat.lt_irrefl _ h1
    rw [hs, List.getD_cons_succ] at h3
    exact dig_head x hx0 _ h3
theorem text_back (m : Nat) (s d rest : ByteArray) (hm : d.size ≤ m) (hd : d.size < 18446744073709551616) (hs : s.data.toList = (numS d.size).data.toList ++ (d.data.toList ++ rest.data.toList)) : textR m s = (d, 0, rest) := by
  have hn := num_back 18446744073709551615 d.size s (d ++ rest) hd (by omega) (by rw [hs, ByteArray.data_append, Array.toList_append])
  unfold textR
  rw [hn]
  dsimp only
  have hz : (d ++ rest).size = d.size + rest.size := ByteArray.size_append
  rw [if_neg (by simp), if_neg (by omega), if_neg (by omega)]
  have e1 : (d ++ rest).extract 0 d.size = d := by
    apply ext_list
    rw [Lib.extract_data, ByteArray.data_append, Array.toList_append, List.drop_zero, Nat.sub_zero, List.take_append_of_le_length (by rw [Array.length_toList]; exact Nat.le_refl _), List.take_of_length_le (by rw [Array.length_toList]; exact Nat.le_refl _)]
  have e2 : (d ++ rest).extract d.size (d ++ rest).size = rest := by
    apply ext_list
    rw [Lib.extract_data, ByteArray.data_append, Array.toList_append, List.drop_append_of_le_length (by rw [Array.length_toList]; exact Nat.le_refl _), List.drop_of_length_le (by rw [Array.length_toList]; exact Nat.le_refl _), List.nil_append, List.take_of_length_le (by rw [Array.length_toList, hz]; show rest.size ≤ _; omega)]
  rw [e1, e2]
theorem R2.num_ok {s rest : ByteArray} {m x : Nat} (h : numR m s = (x, 0, rest)) : (⟨s, 0⟩ : R2).num m = (x, ⟨rest, 0⟩) := by
  unfold R2.num; rw [if_pos rfl, h]; rfl
theorem R2.text_ok {s rest d : ByteArray} {m : Nat} (h : textR m s = (d, 0, rest)) : (⟨s, 0⟩ : R2).text m = (d, ⟨rest, 0⟩) := by
  unfold R2.text; rw [if_pos rfl, h]; rfl
theorem R2.num_val (r : R2) (m : Nat) : (r.num m).1 ≤ m := by unfold R2.num; split; exact numR_val _ _; exact Nat.zero_le _
theorem R2.after_rest (e : Int) (s : ByteArray) : (R2.after e s).s.size ≤ s.size := by unfold R2.after; split; exact Nat.le_refl _; exact Nat.zero_le _
theorem R2.num_rest (r : R2) (m : Nat) : (r.num m).2.s.size ≤ r.s.size := by unfold R2.num; split; exact Nat.le_trans (R2.after_rest _ _) (numR_rest _ _); exact Nat.le_refl _
theorem R2.text_rest (r : R2) (m : Nat) : (r.text m).2.s.size ≤ r.s.size := by unfold R2.text; split; exact Nat.le_trans (R2.after_rest _ _) (textR_rest _ _); exact Nat.le_refl _

theorem new_any (s : ByteArray) (W : World) : Calls Try.prog 32 #[.string s] W fun e w' => e = .returned (.pointer (some ⟨W.heap.size, 0, none⟩)) ∧ w' = W.alloc (.cells #[.string s, .int .i64 0] 70) := by
  go_enter Try.func32, Try.ntmps32
  go_wp2
  go_ret
  exact ⟨rfl, rfl⟩
theorem end_any (R : Nat) (r : R2) (W : World) (hR : Lies W R r) : Calls Try.prog 34 #[.pointer (some ⟨R, 0, none⟩)] W fun e w' => e = .returned (.int .i64 r.end') ∧ w' = W := by
  obtain ⟨s, b⟩ := r
  have c0 : W.cell? ⟨R, 0, none⟩ = some (.string s) := cell_at hR 0
  have c1 : W.cell? ⟨R, 1, none⟩ = some (.int .i64 b) := cell_at hR 1
  clear hR
  by_cases hb : b = 0
  · subst hb
    by_cases hz : 0 < s.size
    · have he : (⟨s, 0⟩ : R2).end' = 4 := by unfold R2.end'; rw [if_pos ⟨rfl, hz⟩]
      have hzi : (0 : Int) < (s.size : Int) := by omega
      rw [he]; clear he hz
      go_enter Try.func34, Try.ntmps34
      go_wp2
      go_ret
      exact ⟨rfl, rfl⟩
    · have he : (⟨s, 0⟩ : R2).end' = 0 := by unfold R2.end'; rw [if_neg (fun h => hz h.2)]
      have hzi : ¬ (0 : Int) < (s.size : Int) := by omega
      rw [he]; clear he hz
      go_enter Try.func34, Try.ntmps34
      go_wp2
      go_ret
      exact ⟨rfl, rfl⟩
  · have he : (⟨s, b⟩ : R2).end' = b := by unfold R2.end'; rw [if_neg (fun h => hb h.1)]
    have hb2 : (b == 0) = false := by simpa using hb
    rw [he]; clear he
    go_enter Try.func34, Try.ntmps34
    go_wp2
    go_ret
    exact ⟨rfl, rfl⟩
theorem left_any (R : Nat) (r : R2) (W : World) (hR : Lies W R r) : Calls Try.prog 59 #[.pointer (some ⟨R, 0, none⟩)] W fun e w' => e = .returned (.int .i64 (r.s.size : Int)) ∧ w' = W := by
  have c0 : W.cell? ⟨R, 0, none⟩ = some (.string r.s) := cell_at hR 0
  clear hR
  go_enter Try.func59, Try.ntmps59
  go_wp2
  go_ret
  exact ⟨rfl, rfl⟩
def R2.failed (r : R2) : Bool := decide (r.end' ≠ 0) && decide (r.s.size = 0)
theorem R2.failed_ok (s : ByteArray) : (⟨s, 0⟩ : R2).failed = false := by
  unfold R2.failed R2.end'
  by_cases h : s.size = 0
  · simp [h]
  · simp [h]
theorem failed_any (R : Nat) (r : R2) (W : World) (hR : Lies W R r) : Calls Try.prog 54 #[.pointer (some ⟨R, 0, none⟩)] W fun e w' => e = .returned (.bool r.failed) ∧ w' = W := by
  have HE := Lib.hid (end_any R r W hR)
  have HL := Lib.hid (left_any R r W hR)
  clear hR
  have hf : r.failed = (decide (r.end' ≠ 0) && decide (r.s.size = 0)) := rfl
  generalize r.end' = e at *
  generalize r.s.size = n at *
  have HF := Lib.hid hf
  clear hf
  go_enter Try.func54, Try.ntmps54
  go_wp2_with fail
  refine HE.out.mono ?_
  rintro _ w1 ⟨rfl, hw⟩
  obtain rfl := hw.symm
  by_cases he : e = 0
  · subst he
    go_wp2
    go_ret
    exact ⟨by rw [HF.out]; rfl, rfl⟩
  · have he2 : (e == 0) = false := by simpa using he
    go_wp2_with fail
    refine HL.out.mono ?_
    rintro _ w1 ⟨rfl, hw⟩
    obtain rfl := hw.symm
    by_cases hn : n = 0
    · subst hn
      go_wp2
      go_ret
      exact ⟨by rw [HF.out]; simp [he], rfl⟩
    · have hn2 : ((n : Int) == 0) = false := by simp; omega
      go_wp2
      go_ret
      exact ⟨by rw [HF.out]; simp [hn], rfl⟩
end Go.Proofs.Ythamemaomedldaa.Rd
