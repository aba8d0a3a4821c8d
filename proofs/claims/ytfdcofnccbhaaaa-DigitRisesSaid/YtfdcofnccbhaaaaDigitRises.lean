/- 'DigitRises' holds for every input, with no condition: a greater number has no fewer bytes, and of as many the greater ones. -/
import Derived.Test.YtfdcofnccbhaaaaDigitAwake
import Derived.Test.YtfdcofnccbhaaaaNumInt
import Derived.OpenShut
namespace Go.Proofs.Ytfdcofnccbhaaaa.digitRises
open Go.RowKit Num DigitAwake

def bytesOf (l : List Int) : List UInt8 := l.map fun n => UInt8.ofNat n.toNat

theorem less_append (l m x y : List UInt8) (hlen : l.length = m.length) (h : Op.bytesLess l m = true) : Op.bytesLess (l ++ x) (m ++ y) = true := by
  induction l generalizing m with
  | nil =>
    cases m with
    | nil => simp [Op.bytesLess] at h
    | cons _ _ => simp at hlen
  | cons a l ih =>
    cases m with
    | nil => simp at hlen
    | cons b m =>
      simp [Op.bytesLess] at h ⊢
      rcases h with h | ⟨h1, h2⟩
      · exact .inl h
      · exact .inr ⟨h1, ih m (by simpa using hlen) h2⟩
theorem less_same (l : List UInt8) (x y : List UInt8) (h : Op.bytesLess x y = true) : Op.bytesLess (l ++ x) (l ++ y) = true := by
  induction l with
  | nil => exact h
  | cons a l ih => simp [Op.bytesLess, ih]

theorem dig_byte (m : Nat) : bytesOf [((m % 256 : Nat) : Int)] = [UInt8.ofNat (m % 256)] := by
  show [UInt8.ofNat (((m % 256 : Nat) : Int)).toNat] = _
  rw [Int.toNat_natCast]
theorem byte_lt {a b : Nat} (ha : a < 256) (hb : b < 256) (h : a < b) : Op.bytesLess [UInt8.ofNat a] [UInt8.ofNat b] = true := by
  have : UInt8.ofNat a < UInt8.ofNat b := by rw [UInt8.lt_iff_toNat_lt]; simp; omega
  simp [Op.bytesLess, this]

/-- A greater number has no fewer digits, and of as many the greater ones. -/
theorem dig_rises : ∀ (b a : Nat), a < b → (dig a).length < (dig b).length ∨ (dig a).length = (dig b).length ∧ Op.bytesLess (bytesOf (dig a)) (bytesOf (dig b)) = true := by
  intro b
  induction b using Nat.strongRecOn with
  | _ b ih =>
    intro a hab
    rw [dig_pos (m := b) (by omega)]
    by_cases ha : a = 0
    · subst ha; rw [dig_zero]; left; simp
    · rw [dig_pos ha]
      by_cases hq : a / 256 = b / 256
      · right
        rw [hq]
        refine ⟨by simp, ?_⟩
        unfold bytesOf
        rw [List.map_append, List.map_append]
        refine less_same _ _ _ ?_
        have := byte_lt (a := a % 256) (b := b % 256) (by omega) (by omega) (by omega)
        rw [← dig_byte, ← dig_byte] at this
        exact this
      · rcases ih (b / 256) (by omega) (a / 256) (by omega) with h | ⟨h1, h2⟩
        · left; simp; omega
        · right
          refine ⟨by simp; omega, ?_⟩
          unfold bytesOf at h2 ⊢
          rw [List.map_append, List.map_append]
          exact less_append _ _ _ _ (by simp; omega) h2

theorem numS_list (n : Nat) : (numS n).data.toList = UInt8.ofNat (dig n).length :: bytesOf (dig n) := by
  simp [numS, strOfNums, bytesOf]
theorem numS_len (n : Nat) : (numS n).size = (dig n).length + 1 := by
  unfold numS; rw [ByteArray.size_append, strOfNums_size, strOfNums_size, List.length_singleton]; omega

theorem less_irrefl (l : List UInt8) : Op.bytesLess l l = false := by
  induction l with
  | nil => rfl
  | cons a l ih => simp [Op.bytesLess, ih]

theorem numS_rises (a b : Nat) (h : a < b) : (numS a).size < (numS b).size ∨ (numS a).size = (numS b).size ∧ Op.bytesLess (numS a).data.toList (numS b).data.toList = true := by
  rw [numS_len, numS_len]
  rcases dig_rises b a h with h | ⟨h1, h2⟩
  · left; omega
  · right
    refine ⟨by omega, ?_⟩
    rw [numS_list, numS_list, h1]
    simp [Op.bytesLess, h2]
theorem numS_ne (a b : Nat) (h : a < b) : (numS a).data.toList ≠ (numS b).data.toList := by
  intro he
  rcases numS_rises a b h with h | ⟨_, h2⟩
  · have : (numS a).size = (numS b).size := by
      have := congrArg List.length he
      simpa using this
    omega
  · rw [he, less_irrefl] at h2; cases h2

set_option maxHeartbeats 1000000 in
theorem num_none (a : Int) (w : World) : Calls Try.prog 20 #[.pointer none, .int .u64 a] w fun e w' => e = .returned (.int .u64 0) ∧ Below w.heap.size w w' := by
  go_enter Try.func20, Try.ntmps20
  go_wp2
  refine bodyPost_ret (results_none rfl _ _ _) rfl ?_
  go_wp2
  refine bodyPost_ret (v := .int .u64 0) (by simp [results, Try.results20, go_sem]) rfl ⟨rfl, ?_⟩
  exact (((Below.refl _ _).alloc (Nat.le_refl _) _).alloc (by simp) _).alloc (by simp; omega) _

set_option maxHeartbeats 1000000 in
theorem text_none (a : Int) (w : World) : Calls Try.prog 21 #[.pointer none, .int .i64 a] w fun e w' => e = .returned (.string ⟨#[]⟩) ∧ Below w.heap.size w w' := by
  go_enter Try.func21, Try.ntmps21
  go_wp2
  refine bodyPost_ret (results_none rfl _ _ _) rfl ?_
  go_wp2
  refine bodyPost_ret (v := .string ⟨#[]⟩) (by simp [results, Try.results21, go_sem]) rfl ⟨rfl, ?_⟩
  exact (((Below.refl _ _).alloc (Nat.le_refl _) _).alloc (by simp) _).alloc (by simp; omega) _

set_option maxHeartbeats 1000000 in
theorem list_none (a : Int) (w : World) : Calls Try.prog 22 #[.pointer none, .int .i64 a] w fun e w' => e = .returned (.slice none 0 0) ∧ Below w.heap.size w w' := by
  go_enter Try.func22, Try.ntmps22
  go_wp2
  refine bodyPost_ret (results_none rfl _ _ _) rfl ?_
  go_wp2
  refine bodyPost_ret (v := .slice none 0 0) (by simp [results, Try.results22, go_sem]) rfl ⟨rfl, ?_⟩
  exact (((Below.refl _ _).alloc (Nat.le_refl _) _).alloc (by simp) _).alloc (by simp; omega) _

theorem left_none (w : World) : Calls Try.prog 23 #[.pointer none] w fun e w' => e = .returned (.int .i64 0) ∧ w' = w := by
  go_enter Try.func23, Try.ntmps23
  go_wp2
  go_ret
  exact ⟨rfl, rfl⟩
theorem end_none (w : World) : Calls Try.prog 24 #[.pointer none] w fun e w' => e = .returned (.int .i64 1) ∧ w' = w := by
  go_enter Try.func24, Try.ntmps24
  go_wp2
  go_ret
  exact ⟨rfl, rfl⟩

set_option maxRecDepth 20000 in
set_option maxHeartbeats 2000000 in
theorem walk0 (a b : Nat) (ha : a < 18446744073709551616) (hb : b < 18446744073709551616) (w : World) :
    Calls Try.prog 4 #[.int .u64 (a : Int), .int .u64 (b : Int)] w fun e w' => e = .returned (.bool true) ∧ Below w.heap.size w w' := by
  have HA := Lib.hid ha; have HB := Lib.hid hb; clear ha hb
  go_enter Try.func4, Try.ntmps4
  go_wp2_with fail
  refine (num_any a HA.out _).mono ?_
  rintro e w1 ⟨rfl, b1⟩
  go_wp2_with fail
  refine (num_any b HB.out _).mono ?_
  rintro e w2 ⟨rfl, b2⟩
  have B2 := Lib.hid (b1.trans (b2.mono b1.size)); clear b1 b2
  go_wp2_with fail
  refine (num_none _ _).mono ?_
  rintro e w3 ⟨rfl, b3⟩
  have B3 := Lib.hid (B2.out.trans (b3.mono B2.out.size)); clear b3 B2
  go_wp2_with fail
  refine (text_none _ _).mono ?_
  rintro e w4 ⟨rfl, b4⟩
  have B4 := Lib.hid (B3.out.trans (b4.mono B3.out.size)); clear b4 B3
  go_wp2_with fail
  refine (list_none _ _).mono ?_
  rintro e w5 ⟨rfl, b5⟩
  have B5 := Lib.hid (B4.out.trans (b5.mono B4.out.size)); clear b5 B4
  go_wp2_with fail
  refine (left_none _).mono ?_
  rintro e w6 ⟨rfl, rfl⟩
  go_wp2_with fail
  refine (end_none _).mono ?_
  rintro e w7 ⟨rfl, rfl⟩
  rcases Nat.lt_trichotomy a b with h | h | h
  · have h1 : ¬ (b : Int) < (a : Int) := by omega
    have h2 : ((a : Int) == (b : Int)) = false := by simp; omega
    have h3 : ((numS a).toList == (numS b).toList) = false := by rw [ByteArray.toList_eq, ByteArray.toList_eq]; simpa using numS_ne a b h
    have HR := Lib.hid (numS_rises a b h)
    clear h
    go_wp2_with fail
    refine (awake_any _).mono ?_
    rintro e w8 ⟨rfl, b8⟩
    have B8 := Lib.hid (B5.out.trans (b8.mono B5.out.size)); clear b8 B5
    rcases HR.out with hl | ⟨hl, hb⟩
    · have hl' : ((numS a).size : Int) < ((numS b).size : Int) := by omega
      go_wp2
      go_ret
      exact ⟨rfl, B8.out⟩
    · have hl1 : ¬ ((numS a).size : Int) < ((numS b).size : Int) := by omega
      have hl2 : (((numS a).size : Int) == ((numS b).size : Int)) = true := by simp; omega
      have hb2 : Op.bytesLess (numS a).toList (numS b).toList = true := by rw [ByteArray.toList_eq, ByteArray.toList_eq]; exact hb
      clear hl hb
      go_wp2
      go_ret
      exact ⟨rfl, B8.out⟩
  · subst h
    have h1 : ¬ (a : Int) < (a : Int) := by omega
    have hl1 : ¬ ((numS a).size : Int) < ((numS a).size : Int) := by omega
    go_wp2_with fail
    refine (awake_any _).mono ?_
    rintro e w8 ⟨rfl, b8⟩
    have B8 := Lib.hid (B5.out.trans (b8.mono B5.out.size)); clear b8 B5
    go_wp2
    go_ret
    exact ⟨by simp, B8.out⟩
  · have h1 : (b : Int) < (a : Int) := by omega
    have h2 : ((a : Int) == (b : Int)) = false := by simp; omega
    have h3 : ((numS b).toList == (numS a).toList) = false := by rw [ByteArray.toList_eq, ByteArray.toList_eq]; simpa using numS_ne b a h
    have HR := Lib.hid (numS_rises b a h)
    clear h
    go_wp2_with fail
    refine (awake_any _).mono ?_
    rintro e w8 ⟨rfl, b8⟩
    have B8 := Lib.hid (B5.out.trans (b8.mono B5.out.size)); clear b8 B5
    rcases HR.out with hl | ⟨hl, hb⟩
    · have hl' : ((numS b).size : Int) < ((numS a).size : Int) := by omega
      go_wp2
      go_ret
      exact ⟨rfl, B8.out⟩
    · have hl1 : ¬ ((numS b).size : Int) < ((numS a).size : Int) := by omega
      have hl2 : (((numS b).size : Int) == ((numS a).size : Int)) = true := by simp; omega
      have hb2 : Op.bytesLess (numS b).toList (numS a).toList = true := by rw [ByteArray.toList_eq, ByteArray.toList_eq]; exact hb
      clear hl hb
      go_wp2
      go_ret
      exact ⟨rfl, B8.out⟩

theorem walk (a : Int) (wa : (Lit.int .u64 a).wf = true) (b : Int) (wb : (Lit.int .u64 b).wf = true) (w : World) :
    Calls Try.prog 4 #[.int .u64 a, .int .u64 b] w fun e w' => e = .returned (.bool true) ∧ Below w.heap.size w w' := by
  have ha := bounds_u64 wa
  have hb := bounds_u64 wb
  obtain ⟨n, rfl⟩ := Int.eq_ofNat_of_zero_le ha.1
  obtain ⟨m, rfl⟩ := Int.eq_ofNat_of_zero_le hb.1
  exact walk0 n m (by omega) (by omega) w
end Go.Proofs.Ytfdcofnccbhaaaa.digitRises
