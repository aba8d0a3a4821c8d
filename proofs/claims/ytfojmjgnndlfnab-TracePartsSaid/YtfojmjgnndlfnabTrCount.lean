/- How many of the marks fit. -/
import Derived.Test.YtfojmjgnndlfnabTrAck
namespace Go.Proofs.Ytfojmjgnndlfnab.Tr
open Go Go.RowKit
set_option linter.unusedVariables false

abbrev TMs : Nat := 23
/-- a mark stands there -/
def At (W : World) (b o : Nat) (m : Mk) : Prop :=
  W.cell? ⟨b, o, none⟩ = some (.int .i64 m.sd) ∧ W.cell? ⟨b, o + 1, none⟩ = some (.int .i64 m.k) ∧ W.cell? ⟨b, o + 2, none⟩ = some (.int .u64 m.h) ∧ W.cell? ⟨b, o + 3, none⟩ = some (.int .i64 m.c) ∧ W.cell? ⟨b, o + 4, none⟩ = some (.int .i64 m.f) ∧
  W.cell? ⟨b, o + 5, none⟩ = some (.int .u64 m.s) ∧ W.cell? ⟨b, o + 6, none⟩ = some (.int .u64 m.t) ∧ W.cell? ⟨b, o + 7, none⟩ = some (.string m.d) ∧ W.cell? ⟨b, o + 8, none⟩ = some (.string m.a)
theorem At.below {B : Nat} {W V : World} {b o : Nat} {m : Mk} (h : At W b o m) (k : Below B W V) (hb : b < B) : At V b o m := by
  have e : ∀ i, V.cell? ⟨b, i, none⟩ = W.cell? ⟨b, i, none⟩ := fun i => k.cell (p := ⟨b, i, none⟩) hb
  unfold At
  simp only [e]
  exact h
/-- a slice that reads as marks -/
def Rd (w : World) (A : Option Addr) (n : Nat) (f : Nat → Mk) : Prop := 0 < n → ∃ b off, A = some ⟨b, off, none⟩ ∧ b < w.heap.size ∧ ∀ i, i < n → At w b (off + i * 9) (f i)
theorem Rd.below {w V : World} {A : Option Addr} {n : Nat} {f : Nat → Mk} (h : Rd w A n f) (k : Below w.heap.size w V) : Rd V A n f := fun hn => by
  obtain ⟨b, off, h1, h2, h3⟩ := h hn
  exact ⟨b, off, h1, Nat.lt_of_lt_of_le h2 k.size, fun i hi => (h3 i hi).below k h2⟩
theorem Rd.less {w : World} {A : Option Addr} {n m : Nat} {f : Nat → Mk} (h : Rd w A n f) (k : m ≤ n) : Rd w A m f := fun hn => by
  obtain ⟨b, off, h1, h2, h3⟩ := h (by omega)
  exact ⟨b, off, h1, h2, fun i hi => h3 i (by omega)⟩
/-- how many of the first n fit -/
def cn (P : Mk → Bool) (f : Nat → Mk) : Nat → Nat
  | 0 => 0
  | n + 1 => if P (f n) then cn P f n + 1 else cn P f n
theorem cn_yes {P : Mk → Bool} {f : Nat → Mk} {n : Nat} (h : P (f n) = true) : cn P f (n + 1) = cn P f n + 1 := by rw [cn, if_pos h]
theorem cn_no {P : Mk → Bool} {f : Nat → Mk} {n : Nat} (h : P (f n) = false) : cn P f (n + 1) = cn P f n := by rw [cn, h]; rfl
theorem cn_le (P : Mk → Bool) (f : Nat → Mk) : ∀ n, cn P f n ≤ n
  | 0 => Nat.le_refl _
  | n + 1 => by
    have := cn_le P f n
    unfold cn
    split <;> omega
set_option maxRecDepth 20000 in
set_option maxHeartbeats 2000000 in
theorem count_shut {w : World} {A : Option Addr} {n cap : Nat} {f : Nat → Mk} {q P B : Nat} {P1 : Mk → Bool} (hq : w.heap[q]? = some (.cells #[.slice A n cap] TMs (0, 0))) (hr : Rd w A n f) (hn : n ≤ 1000)
    (hf : ∀ (m : Mk) (V : World), Below w.heap.size w V → Calls Try.prog 24 #[.agg #[.int .i64 m.sd, .int .i64 m.k, .int .u64 m.h, .int .i64 m.c, .int .i64 m.f, .int .u64 m.s, .int .u64 m.t, .string m.d, .string m.a], .pointer (some ⟨P, 0, none⟩), .pointer (some ⟨B, 0, none⟩)] V fun e w' => e = .returned (.bool (P1 m)) ∧ Below V.heap.size V w') :
    Calls Try.prog 10 #[.func (.func 24) #[] #[.pointer (some ⟨P, 0, none⟩), .pointer (some ⟨B, 0, none⟩)], .pointer (some ⟨q, 0, none⟩)] w fun e w' => e = .returned (.int .u64 (cn P1 f n)) ∧ Below w.heap.size w w' := by
  have q0 := cell_of_row w q 0 _ _ (0, 0) hq
  have HF := Lib.hid hf
  have lq := lt_of hq
  clear hf hq
  by_cases h0 : n = 0
  · subst h0
    clear hr
    go_enter Try.func10, Try.ntmps10
    go_wp2
    refine wp_loop_rounds 1 ?_
    rw [rounds_succ]
    go_wp2
    go_ret
    exact ⟨rfl, Below.refl _ _⟩
  · obtain ⟨b, off, rfl, hb, hA⟩ := hr (by omega)
    have HA := Lib.hid hA
    clear hA hr
    have hn1 : (n : Int) ≤ 1000 := by omega
    go_enter Try.func10, Try.ntmps10
    go_wp2
    clear q0
    go_loopw [4, 9] (fun c i wr => ∃ k : Nat, i = .int .i64 (k : Int) ∧ k ≤ n ∧ c = .int .u64 (cn P1 f k : Nat) ∧ Below w.heap.size w wr) (fun c i _ => n - (intOf i).toNat)
    case atStart => exact ⟨0, rfl, Nat.zero_le _, rfl, Below.refl _ _⟩
    case round =>
      obtain ⟨k, rfl, hk, rfl, hB⟩ := hrel
      have HB := Lib.hid hB
      clear hB
      have hk0 : (0 : Int) ≤ (k : Int) := by omega
      have hcl := cn_le P1 f k
      by_cases hlt : k < n
      · have hk1 : (k : Int) < (n : Int) := by omega
        obtain ⟨c0, c1, c2, c3, c4, c5, c6, c7, c8⟩ := (HA.out k hlt).below HB.out hb
        have lb : b < wr.heap.size := Nat.lt_of_lt_of_le hb HB.out.size
        obtain ⟨x, hx⟩ : ∃ x, x = f k := ⟨_, rfl⟩
        rw [← hx] at c0 c1 c2 c3 c4 c5 c6 c7 c8
        have HX := Lib.hid hx
        clear hx
        obtain ⟨c, hc⟩ : ∃ c, c = cn P1 f k := ⟨_, rfl⟩
        rw [← hc] at hcl ⊢
        have HC := Lib.hid hc
        clear hc
        go_wp2_with fail
        have HB1 := Lib.hid (HB.out.alloc HB.out.size (.cells #[.int .i64 x.sd, .int .i64 x.k, .int .u64 x.h, .int .i64 x.c, .int .i64 x.f, .int .u64 x.s, .int .u64 x.t, .string x.d, .string x.a] TMk))
        refine (HF.out x _ (by first | exact HB1.out)).mono ?_
        rintro _ w2 ⟨rfl, b2⟩
        have HB2 := Lib.hid (HB1.out.trans (b2.mono HB1.out.size))
        clear b2 HB1 HB c0 c1 c2 c3 c4 c5 c6 c7 c8
        cases hp : P1 x with
        | true =>
          have hw : IntKind.u64.wrap ((c : Int) + 1) = (c : Int) + 1 := by rw [IntKind.wrap_u64]; omega
          have HP := Lib.hid hp
          clear hp
          go_wp2
          exact ⟨⟨k + 1, by go_num, by omega, by rw [cn_yes (by rw [← HX.out]; exact HP.out), ← HC.out]; first | rfl | (simp; done) | go_num, HB2.out⟩, by simp [intOf]; omega⟩
        | false =>
          have HP := Lib.hid hp
          clear hp
          go_wp2
          exact ⟨⟨k + 1, by go_num, by omega, by rw [cn_no (by rw [← HX.out]; exact HP.out), ← HC.out], HB2.out⟩, by simp [intOf]; omega⟩
      · obtain rfl : k = n := by omega
        go_wp2
        go_ret
        exact ⟨rfl, HB.out⟩
set_option maxRecDepth 20000 in
set_option maxHeartbeats 2000000 in
theorem count_next {w : World} {A : Option Addr} {n cap : Nat} {f : Nat → Mk} {q B P : Nat} {P1 : Mk → Bool} (hq : w.heap[q]? = some (.cells #[.slice A n cap] TMs (0, 0))) (hr : Rd w A n f) (hn : n ≤ 1000)
    (hf : ∀ (m : Mk) (V : World), Below w.heap.size w V → Calls Try.prog 25 #[.agg #[.int .i64 m.sd, .int .i64 m.k, .int .u64 m.h, .int .i64 m.c, .int .i64 m.f, .int .u64 m.s, .int .u64 m.t, .string m.d, .string m.a], .pointer (some ⟨B, 0, none⟩), .pointer (some ⟨P, 0, none⟩)] V fun e w' => e = .returned (.bool (P1 m)) ∧ Below V.heap.size V w') :
    Calls Try.prog 10 #[.func (.func 25) #[] #[.pointer (some ⟨B, 0, none⟩), .pointer (some ⟨P, 0, none⟩)], .pointer (some ⟨q, 0, none⟩)] w fun e w' => e = .returned (.int .u64 (cn P1 f n)) ∧ Below w.heap.size w w' := by
  have q0 := cell_of_row w q 0 _ _ (0, 0) hq
  have HF := Lib.hid hf
  have lq := lt_of hq
  clear hf hq
  by_cases h0 : n = 0
  · subst h0
    clear hr
    go_enter Try.func10, Try.ntmps10
    go_wp2
    refine wp_loop_rounds 1 ?_
    rw [rounds_succ]
    go_wp2
    go_ret
    exact ⟨rfl, Below.refl _ _⟩
  · obtain ⟨b, off, rfl, hb, hA⟩ := hr (by omega)
    have HA := Lib.hid hA
    clear hA hr
    have hn1 : (n : Int) ≤ 1000 := by omega
    go_enter Try.func10, Try.ntmps10
    go_wp2
    clear q0
    go_loopw [4, 9] (fun c i wr => ∃ k : Nat, i = .int .i64 (k : Int) ∧ k ≤ n ∧ c = .int .u64 (cn P1 f k : Nat) ∧ Below w.heap.size w wr) (fun c i _ => n - (intOf i).toNat)
    case atStart => exact ⟨0, rfl, Nat.zero_le _, rfl, Below.refl _ _⟩
    case round =>
      obtain ⟨k, rfl, hk, rfl, hB⟩ := hrel
      have HB := Lib.hid hB
      clear hB
      have hk0 : (0 : Int) ≤ (k : Int) := by omega
      have hcl := cn_le P1 f k
      by_cases hlt : k < n
      · have hk1 : (k : Int) < (n : Int) := by omega
        obtain ⟨c0, c1, c2, c3, c4, c5, c6, c7, c8⟩ := (HA.out k hlt).below HB.out hb
        have lb : b < wr.heap.size := Nat.lt_of_lt_of_le hb HB.out.size
        obtain ⟨x, hx⟩ : ∃ x, x = f k := ⟨_, rfl⟩
        rw [← hx] at c0 c1 c2 c3 c4 c5 c6 c7 c8
        have HX := Lib.hid hx
        clear hx
        obtain ⟨c, hc⟩ : ∃ c, c = cn P1 f k := ⟨_, rfl⟩
        rw [← hc] at hcl ⊢
        have HC := Lib.hid hc
        clear hc
        go_wp2_with fail
        have HB1 := Lib.hid (HB.out.alloc HB.out.size (.cells #[.int .i64 x.sd, .int .i64 x.k, .int .u64 x.h, .int .i64 x.c, .int .i64 x.f, .int .u64 x.s, .int .u64 x.t, .string x.d, .string x.a] TMk))
        refine (HF.out x _ (by first | exact HB1.out)).mono ?_
        rintro _ w2 ⟨rfl, b2⟩
        have HB2 := Lib.hid (HB1.out.trans (b2.mono HB1.out.size))
        clear b2 HB1 HB c0 c1 c2 c3 c4 c5 c6 c7 c8
        cases hp : P1 x with
        | true =>
          have hw : IntKind.u64.wrap ((c : Int) + 1) = (c : Int) + 1 := by rw [IntKind.wrap_u64]; omega
          have HP := Lib.hid hp
          clear hp
          go_wp2
          exact ⟨⟨k + 1, by go_num, by omega, by rw [cn_yes (by rw [← HX.out]; exact HP.out), ← HC.out]; first | rfl | (simp; done) | go_num, HB2.out⟩, by simp [intOf]; omega⟩
        | false =>
          have HP := Lib.hid hp
          clear hp
          go_wp2
          exact ⟨⟨k + 1, by go_num, by omega, by rw [cn_no (by rw [← HX.out]; exact HP.out), ← HC.out], HB2.out⟩, by simp [intOf]; omega⟩
      · obtain rfl : k = n := by omega
        go_wp2
        go_ret
        exact ⟨rfl, HB.out⟩
set_option maxRecDepth 20000 in
set_option maxHeartbeats 2000000 in
theorem count_sent {w : World} {A : Option Addr} {n cap : Nat} {f : Nat → Mk} {q P : Nat} {P1 : Mk → Bool} (hq : w.heap[q]? = some (.cells #[.slice A n cap] TMs (0, 0))) (hr : Rd w A n f) (hn : n ≤ 1000)
    (hf : ∀ (m : Mk) (V : World), Below w.heap.size w V → Calls Try.prog 32 #[.agg #[.int .i64 m.sd, .int .i64 m.k, .int .u64 m.h, .int .i64 m.c, .int .i64 m.f, .int .u64 m.s, .int .u64 m.t, .string m.d, .string m.a], .pointer (some ⟨P, 0, none⟩)] V fun e w' => e = .returned (.bool (P1 m)) ∧ Below V.heap.size V w') :
    Calls Try.prog 10 #[.func (.func 32) #[] #[.pointer (some ⟨P, 0, none⟩)], .pointer (some ⟨q, 0, none⟩)] w fun e w' => e = .returned (.int .u64 (cn P1 f n)) ∧ Below w.heap.size w w' := by
  have q0 := cell_of_row w q 0 _ _ (0, 0) hq
  have HF := Lib.hid hf
  have lq := lt_of hq
  clear hf hq
  by_cases h0 : n = 0
  · subst h0
    clear hr
    go_enter Try.func10, Try.ntmps10
    go_wp2
    refine wp_loop_rounds 1 ?_
    rw [rounds_succ]
    go_wp2
    go_ret
    exact ⟨rfl, Below.refl _ _⟩
  · obtain ⟨b, off, rfl, hb, hA⟩ := hr (by omega)
    have HA := Lib.hid hA
    clear hA hr
    have hn1 : (n : Int) ≤ 1000 := by omega
    go_enter Try.func10, Try.ntmps10
    go_wp2
    clear q0
    go_loopw [4, 9] (fun c i wr => ∃ k : Nat, i = .int .i64 (k : Int) ∧ k ≤ n ∧ c = .int .u64 (cn P1 f k : Nat) ∧ Below w.heap.size w wr) (fun c i _ => n - (intOf i).toNat)
    case atStart => exact ⟨0, rfl, Nat.zero_le _, rfl, Below.refl _ _⟩
    case round =>
      obtain ⟨k, rfl, hk, rfl, hB⟩ := hrel
      have HB := Lib.hid hB
      clear hB
      have hk0 : (0 : Int) ≤ (k : Int) := by omega
      have hcl := cn_le P1 f k
      by_cases hlt : k < n
      · have hk1 : (k : Int) < (n : Int) := by omega
        obtain ⟨c0, c1, c2, c3, c4, c5, c6, c7, c8⟩ := (HA.out k hlt).below HB.out hb
        have lb : b < wr.heap.size := Nat.lt_of_lt_of_le hb HB.out.size
        obtain ⟨x, hx⟩ : ∃ x, x = f k := ⟨_, rfl⟩
        rw [← hx] at c0 c1 c2 c3 c4 c5 c6 c7 c8
        have HX := Lib.hid hx
        clear hx
        obtain ⟨c, hc⟩ : ∃ c, c = cn P1 f k := ⟨_, rfl⟩
        rw [← hc] at hcl ⊢
        have HC := Lib.hid hc
        clear hc
        go_wp2_with fail
        have HB1 := Lib.hid (HB.out.alloc HB.out.size (.cells #[.int .i64 x.sd, .int .i64 x.k, .int .u64 x.h, .int .i64 x.c, .int .i64 x.f, .int .u64 x.s, .int .u64 x.t, .string x.d, .string x.a] TMk))
        refine (HF.out x _ (by first | exact HB1.out)).mono ?_
        rintro _ w2 ⟨rfl, b2⟩
        have HB2 := Lib.hid (HB1.out.trans (b2.mono HB1.out.size))
        clear b2 HB1 HB c0 c1 c2 c3 c4 c5 c6 c7 c8
        cases hp : P1 x with
        | true =>
          have hw : IntKind.u64.wrap ((c : Int) + 1) = (c : Int) + 1 := by rw [IntKind.wrap_u64]; omega
          have HP := Lib.hid hp
          clear hp
          go_wp2
          exact ⟨⟨k + 1, by go_num, by omega, by rw [cn_yes (by rw [← HX.out]; exact HP.out), ← HC.out]; first | rfl | (simp; done) | go_num, HB2.out⟩, by simp [intOf]; omega⟩
        | false =>
          have HP := Lib.hid hp
          clear hp
          go_wp2
          exact ⟨⟨k + 1, by go_num, by omega, by rw [cn_no (by rw [← HX.out]; exact HP.out), ← HC.out], HB2.out⟩, by simp [intOf]; omega⟩
      · obtain rfl : k = n := by omega
        go_wp2
        go_ret
        exact ⟨rfl, HB.out⟩
set_option maxRecDepth 20000 in
set_option maxHeartbeats 2000000 in
theorem count_of {w : World} {A : Option Addr} {n cap : Nat} {f : Nat → Mk} {q Y Z : Nat} {P1 : Mk → Bool} (hq : w.heap[q]? = some (.cells #[.slice A n cap] TMs (0, 0))) (hr : Rd w A n f) (hn : n ≤ 1000)
    (hf : ∀ (m : Mk) (V : World), Below w.heap.size w V → Calls Try.prog 34 #[.agg #[.int .i64 m.sd, .int .i64 m.k, .int .u64 m.h, .int .i64 m.c, .int .i64 m.f, .int .u64 m.s, .int .u64 m.t, .string m.d, .string m.a], .pointer (some ⟨Y, 0, none⟩), .pointer (some ⟨Z, 0, none⟩)] V fun e w' => e = .returned (.bool (P1 m)) ∧ Below V.heap.size V w') :
    Calls Try.prog 10 #[.func (.func 34) #[] #[.pointer (some ⟨Y, 0, none⟩), .pointer (some ⟨Z, 0, none⟩)], .pointer (some ⟨q, 0, none⟩)] w fun e w' => e = .returned (.int .u64 (cn P1 f n)) ∧ Below w.heap.size w w' := by
  have q0 := cell_of_row w q 0 _ _ (0, 0) hq
  have HF := Lib.hid hf
  have lq := lt_of hq
  clear hf hq
  by_cases h0 : n = 0
  · subst h0
    clear hr
    go_enter Try.func10, Try.ntmps10
    go_wp2
    refine wp_loop_rounds 1 ?_
    rw [rounds_succ]
    go_wp2
    go_ret
    exact ⟨rfl, Below.refl _ _⟩
  · obtain ⟨b, off, rfl, hb, hA⟩ := hr (by omega)
    have HA := Lib.hid hA
    clear hA hr
    have hn1 : (n : Int) ≤ 1000 := by omega
    go_enter Try.func10, Try.ntmps10
    go_wp2
    clear q0
    go_loopw [4, 9] (fun c i wr => ∃ k : Nat, i = .int .i64 (k : Int) ∧ k ≤ n ∧ c = .int .u64 (cn P1 f k : Nat) ∧ Below w.heap.size w wr) (fun c i _ => n - (intOf i).toNat)
    case atStart => exact ⟨0, rfl, Nat.zero_le _, rfl, Below.refl _ _⟩
    case round =>
      obtain ⟨k, rfl, hk, rfl, hB⟩ := hrel
      have HB := Lib.hid hB
      clear hB
      have hk0 : (0 : Int) ≤ (k : Int) := by omega
      have hcl := cn_le P1 f k
      by_cases hlt : k < n
      · have hk1 : (k : Int) < (n : Int) := by omega
        obtain ⟨c0, c1, c2, c3, c4, c5, c6, c7, c8⟩ := (HA.out k hlt).below HB.out hb
        have lb : b < wr.heap.size := Nat.lt_of_lt_of_le hb HB.out.size
        obtain ⟨x, hx⟩ : ∃ x, x = f k := ⟨_, rfl⟩
        rw [← hx] at c0 c1 c2 c3 c4 c5 c6 c7 c8
        have HX := Lib.hid hx
        clear hx
        obtain ⟨c, hc⟩ : ∃ c, c = cn P1 f k := ⟨_, rfl⟩
        rw [← hc] at hcl ⊢
        have HC := Lib.hid hc
        clear hc
        go_wp2_with fail
        have HB1 := Lib.hid (HB.out.alloc HB.out.size (.cells #[.int .i64 x.sd, .int .i64 x.k, .int .u64 x.h, .int .i64 x.c, .int .i64 x.f, .int .u64 x.s, .int .u64 x.t, .string x.d, .string x.a] TMk))
        refine (HF.out x _ (by first | exact HB1.out)).mono ?_
        rintro _ w2 ⟨rfl, b2⟩
        have HB2 := Lib.hid (HB1.out.trans (b2.mono HB1.out.size))
        clear b2 HB1 HB c0 c1 c2 c3 c4 c5 c6 c7 c8
        cases hp : P1 x with
        | true =>
          have hw : IntKind.u64.wrap ((c : Int) + 1) = (c : Int) + 1 := by rw [IntKind.wrap_u64]; omega
          have HP := Lib.hid hp
          clear hp
          go_wp2
          exact ⟨⟨k + 1, by go_num, by omega, by rw [cn_yes (by rw [← HX.out]; exact HP.out), ← HC.out]; first | rfl | (simp; done) | go_num, HB2.out⟩, by simp [intOf]; omega⟩
        | false =>
          have HP := Lib.hid hp
          clear hp
          go_wp2
          exact ⟨⟨k + 1, by go_num, by omega, by rw [cn_no (by rw [← HX.out]; exact HP.out), ← HC.out], HB2.out⟩, by simp [intOf]; omega⟩
      · obtain rfl : k = n := by omega
        go_wp2
        go_ret
        exact ⟨rfl, HB.out⟩
set_option maxRecDepth 20000 in
set_option maxHeartbeats 2000000 in
theorem count_ack {w : World} {A : Option Addr} {n cap : Nat} {f : Nat → Mk} {q B P : Nat} {P1 : Mk → Bool} (hq : w.heap[q]? = some (.cells #[.slice A n cap] TMs (0, 0))) (hr : Rd w A n f) (hn : n ≤ 1000)
    (hf : ∀ (m : Mk) (V : World), Below w.heap.size w V → Calls Try.prog 28 #[.agg #[.int .i64 m.sd, .int .i64 m.k, .int .u64 m.h, .int .i64 m.c, .int .i64 m.f, .int .u64 m.s, .int .u64 m.t, .string m.d, .string m.a], .pointer (some ⟨B, 0, none⟩), .pointer (some ⟨P, 0, none⟩)] V fun e w' => e = .returned (.bool (P1 m)) ∧ Below V.heap.size V w') :
    Calls Try.prog 10 #[.func (.func 28) #[] #[.pointer (some ⟨B, 0, none⟩), .pointer (some ⟨P, 0, none⟩)], .pointer (some ⟨q, 0, none⟩)] w fun e w' => e = .returned (.int .u64 (cn P1 f n)) ∧ Below w.heap.size w w' := by
  have q0 := cell_of_row w q 0 _ _ (0, 0) hq
  have HF := Lib.hid hf
  have lq := lt_of hq
  clear hf hq
  by_cases h0 : n = 0
  · subst h0
    clear hr
    go_enter Try.func10, Try.ntmps10
    go_wp2
    refine wp_loop_rounds 1 ?_
    rw [rounds_succ]
    go_wp2
    go_ret
    exact ⟨rfl, Below.refl _ _⟩
  · obtain ⟨b, off, rfl, hb, hA⟩ := hr (by omega)
    have HA := Lib.hid hA
    clear hA hr
    have hn1 : (n : Int) ≤ 1000 := by omega
    go_enter Try.func10, Try.ntmps10
    go_wp2
    clear q0
    go_loopw [4, 9] (fun c i wr => ∃ k : Nat, i = .int .i64 (k : Int) ∧ k ≤ n ∧ c = .int .u64 (cn P1 f k : Nat) ∧ Below w.heap.size w wr) (fun c i _ => n - (intOf i).toNat)
    case atStart => exact ⟨0, rfl, Nat.zero_le _, rfl, Below.refl _ _⟩
    case round =>
      obtain ⟨k, rfl, hk, rfl, hB⟩ := hrel
      have HB := Lib.hid hB
      clear hB
      have hk0 : (0 : Int) ≤ (k : Int) := by omega
      have hcl := cn_le P1 f k
      by_cases hlt : k < n
      · have hk1 : (k : Int) < (n : Int) := by omega
        obtain ⟨c0, c1, c2, c3, c4, c5, c6, c7, c8⟩ := (HA.out k hlt).below HB.out hb
        have lb : b < wr.heap.size := Nat.lt_of_lt_of_le hb HB.out.size
        obtain ⟨x, hx⟩ : ∃ x, x = f k := ⟨_, rfl⟩
        rw [← hx] at c0 c1 c2 c3 c4 c5 c6 c7 c8
        have HX := Lib.hid hx
        clear hx
        obtain ⟨c, hc⟩ : ∃ c, c = cn P1 f k := ⟨_, rfl⟩
        rw [← hc] at hcl ⊢
        have HC := Lib.hid hc
        clear hc
        go_wp2_with fail
        have HB1 := Lib.hid (HB.out.alloc HB.out.size (.cells #[.int .i64 x.sd, .int .i64 x.k, .int .u64 x.h, .int .i64 x.c, .int .i64 x.f, .int .u64 x.s, .int .u64 x.t, .string x.d, .string x.a] TMk))
        refine (HF.out x _ (by first | exact HB1.out)).mono ?_
        rintro _ w2 ⟨rfl, b2⟩
        have HB2 := Lib.hid (HB1.out.trans (b2.mono HB1.out.size))
        clear b2 HB1 HB c0 c1 c2 c3 c4 c5 c6 c7 c8
        cases hp : P1 x with
        | true =>
          have hw : IntKind.u64.wrap ((c : Int) + 1) = (c : Int) + 1 := by rw [IntKind.wrap_u64]; omega
          have HP := Lib.hid hp
          clear hp
          go_wp2
          exact ⟨⟨k + 1, by go_num, by omega, by rw [cn_yes (by rw [← HX.out]; exact HP.out), ← HC.out]; first | rfl | (simp; done) | go_num, HB2.out⟩, by simp [intOf]; omega⟩
        | false =>
          have HP := Lib.hid hp
          clear hp
          go_wp2
          exact ⟨⟨k + 1, by go_num, by omega, by rw [cn_no (by rw [← HX.out]; exact HP.out), ← HC.out], HB2.out⟩, by simp [intOf]; omega⟩
      · obtain rfl : k = n := by omega
        go_wp2
        go_ret
        exact ⟨rfl, HB.out⟩
end Go.Proofs.Ytfojmjgnndlfnab.Tr
