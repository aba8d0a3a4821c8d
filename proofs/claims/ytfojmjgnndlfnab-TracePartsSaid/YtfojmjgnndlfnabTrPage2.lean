/- The page's marks: shut, count. -/
import Derived.Test.YtfojmjgnndlfnabTrPage
namespace Go.Proofs.Ytfojmjgnndlfnab.Tr
open Go Go.RowKit
set_option linter.unusedVariables false

set_option maxRecDepth 20000 in
set_option maxHeartbeats 4000000 in
theorem rshut_any (x : Mk)  {w : World} {A : Option Addr} {n cap : Nat} {f : Nat → Mk} (hr : Rd w A n f) (hn : n ≤ 1000) :
    Calls Try.prog 18 #[.slice A n cap, .int .i64 x.sd, .int .i64 x.c] w fun e w' => e = .returned (.bool (decide (0 < cn (pShut x) f n))) ∧ Below w.heap.size w w' := by
  by_cases h0 : n = 0
  · subst h0
    clear hr
    go_enter Try.func18, Try.ntmps18
    go_wp2
    refine wp_loop_rounds 1 ?_
    rw [rounds_succ]
    go_wp2
    go_ret
    exact ⟨rfl, Below.refl _ _⟩
  · obtain ⟨b, off, rfl, hb, hA⟩ := hr (by omega)
    have HA := Lib.hid hA
    clear hA hr
    have hn1 : (n : Int) ≤ 1000 := by omega
    go_enter Try.func18, Try.ntmps18
    go_wp2
    go_loopw [7] (fun i wr => ∃ k : Nat, i = .int .i64 (k : Int) ∧ k ≤ n ∧ cn (pShut x) f k = 0 ∧ Below w.heap.size w wr) (fun i _ => n - (intOf i).toNat)
    case atStart => exact ⟨0, rfl, Nat.zero_le _, rfl, Below.refl _ _⟩
    case round =>
      obtain ⟨k, rfl, hk, hz, hB⟩ := hrel
      have HB := Lib.hid (And.intro hB trivial)
      clear hB
      have hk0 : (0 : Int) ≤ (k : Int) := by omega
      have hcl := cn_le (pShut x) f k
      by_cases hlt : k < n
      · have hk1 : (k : Int) < (n : Int) := by omega
        have hat := (HA.out k hlt).below HB.out.1 hb
        have lb : b < wr.heap.size := Nat.lt_of_lt_of_le hb HB.out.1.size
        skip
        obtain ⟨m, hm⟩ : ∃ m, m = f k := ⟨_, rfl⟩
        rw [← hm] at hat
        have HM := Lib.hid hm
        have HAT := Lib.hid hat
        clear hm hat
        have HZ := Lib.hid hz
        clear hz hcl
        by_cases d0 : m.k = 5
        · skip
          by_cases d1 : m.sd = x.sd
          · skip
            by_cases d2 : m.c = x.c
            · skip
              have H0 := Lib.hid (And.intro d0 (show (m.k == 5) = true by simpa using d0))
              have H1 := Lib.hid (And.intro d1 (show (m.sd == x.sd) = true by simpa using d1))
              have H2 := Lib.hid (And.intro d2 (show (m.c == x.c) = true by simpa using d2))
              have HP : Hid ((pShut x) m = true) := Lib.hid (by simp [pShut, d0, d1, d2])
              clear d0 d1 d2
              have h0z := H0.out.1
              have h0b := H0.out.2
              have h1z := H1.out.1
              have h1b := H1.out.2
              have h2z := H2.out.1
              have h2b := H2.out.2
              obtain ⟨c0, c1, c2, c3, c4, c5, c6, c7, c8⟩ := HAT.out
              have HN := HB
              go_wp2
              go_ret
              exact ⟨by rw [decide_eq_true (cn_pos (by rw [← HM.out]; exact HP.out) hlt)]; rfl, HN.out.1⟩
            · skip
              have H0 := Lib.hid (And.intro d0 (show (m.k == 5) = true by simpa using d0))
              have H1 := Lib.hid (And.intro d1 (show (m.sd == x.sd) = true by simpa using d1))
              have H2 := Lib.hid (And.intro d2 (show (m.c == x.c) = false by simpa using d2))
              have HP : Hid ((pShut x) m = false) := Lib.hid (by simp [pShut, d0, d1, d2])
              clear d0 d1 d2
              have h0z := H0.out.1
              have h0b := H0.out.2
              have h1z := H1.out.1
              have h1b := H1.out.2
              have h2z := H2.out.1
              have h2b := H2.out.2
              obtain ⟨c0, c1, c2, c3, c4, c5, c6, c7, c8⟩ := HAT.out
              have HN := HB
              go_wp2
              exact ⟨⟨k + 1, by go_num, by omega, by rw [cn_no (by rw [← HM.out]; exact HP.out)]; exact HZ.out, HN.out.1⟩, by simp [intOf]; omega⟩
          · skip
            have H0 := Lib.hid (And.intro d0 (show (m.k == 5) = true by simpa using d0))
            have H1 := Lib.hid (And.intro d1 (show (m.sd == x.sd) = false by simpa using d1))
            have HP : Hid ((pShut x) m = false) := Lib.hid (by simp [pShut, d0, d1])
            clear d0 d1
            have h0z := H0.out.1
            have h0b := H0.out.2
            have h1z := H1.out.1
            have h1b := H1.out.2
            obtain ⟨c0, c1, c2, c3, c4, c5, c6, c7, c8⟩ := HAT.out
            have HN := HB
            go_wp2
            exact ⟨⟨k + 1, by go_num, by omega, by rw [cn_no (by rw [← HM.out]; exact HP.out)]; exact HZ.out, HN.out.1⟩, by simp [intOf]; omega⟩
        · skip
          have H0 := Lib.hid (And.intro d0 (show (m.k == 5) = false by simpa using d0))
          have HP : Hid ((pShut x) m = false) := Lib.hid (by simp [pShut, d0])
          clear d0
          have h0z := H0.out.1
          have h0b := H0.out.2
          obtain ⟨c0, c1, c2, c3, c4, c5, c6, c7, c8⟩ := HAT.out
          have HN := HB
          go_wp2
          exact ⟨⟨k + 1, by go_num, by omega, by rw [cn_no (by rw [← HM.out]; exact HP.out)]; exact HZ.out, HN.out.1⟩, by simp [intOf]; omega⟩
      · obtain rfl : k = n := by omega
        have HZ := Lib.hid hz
        clear hz
        go_wp2
        go_ret
        exact ⟨by rw [decide_eq_false (by rw [HZ.out]; exact Nat.lt_irrefl 0)]; rfl, HB.out.1⟩
set_option maxRecDepth 20000 in
set_option maxHeartbeats 4000000 in
theorem rcount_any (x : Mk) (kd : Int) {w : World} {A : Option Addr} {n cap : Nat} {f : Nat → Mk} (hr : Rd w A n f) (hn : n ≤ 1000) :
    Calls Try.prog 19 #[.slice A n cap, .int .i64 kd, .agg #[.int .i64 x.c, .int .i64 x.f, .int .u64 x.s, .int .u64 x.t, .string x.d]] w fun e w' => e = .returned (.int .u64 (cn (pCnt kd x) f n)) ∧ Below w.heap.size w w' := by
  have hb := heap_alloc_new w (.cells #[.int .i64 x.c, .int .i64 x.f, .int .u64 x.s, .int .u64 x.t, .string x.d] TPk)
  have hB : Below w.heap.size w (w.alloc (.cells #[.int .i64 x.c, .int .i64 x.f, .int .u64 x.s, .int .u64 x.t, .string x.d] TPk)) := (Below.refl _ _).alloc (Nat.le_refl _) _
  obtain ⟨w0, hw0⟩ : ∃ X, X = (w.alloc (.cells #[.int .i64 x.c, .int .i64 x.f, .int .u64 x.s, .int .u64 x.t, .string x.d] TPk)) := ⟨_, rfl⟩
  rw [← hw0] at hb hB
  have HB0 := Lib.hid (And.intro hB hb)
  clear hb hB
  by_cases h0 : n = 0
  · subst h0
    clear hr
    go_enter Try.func19, Try.ntmps19
    go_upto_region 1 with fail
    rw [← hw0]
    clear hw0
    go_wp2
    refine wp_loop_rounds 1 ?_
    rw [rounds_succ]
    go_wp2
    go_ret
    exact ⟨rfl, HB0.out.1⟩
  · obtain ⟨b, off, rfl, hb, hA⟩ := hr (by omega)
    have HA := Lib.hid hA
    clear hA hr
    have hn1 : (n : Int) ≤ 1000 := by omega
    go_enter Try.func19, Try.ntmps19
    go_upto_region 1 with fail
    rw [← hw0]
    clear hw0
    go_wp2
    go_loopw [7, 8] (fun c i wr => ∃ k : Nat, i = .int .i64 (k : Int) ∧ k ≤ n ∧ c = .int .u64 (cn (pCnt kd x) f k : Nat) ∧ Below w.heap.size w wr ∧ wr.heap[w.heap.size]? = some (.cells #[.int .i64 x.c, .int .i64 x.f, .int .u64 x.s, .int .u64 x.t, .string x.d] TPk (0, 0))) (fun c i _ => n - (intOf i).toNat)
    case atStart => exact ⟨0, rfl, Nat.zero_le _, rfl, HB0.out.1, HB0.out.2⟩
    case round =>
      obtain ⟨k, rfl, hk, rfl, hB, hbx⟩ := hrel
      have HB := Lib.hid (And.intro hB hbx)
      clear hB hbx HB0
      have hk0 : (0 : Int) ≤ (k : Int) := by omega
      have hcl := cn_le (pCnt kd x) f k
      by_cases hlt : k < n
      · have hk1 : (k : Int) < (n : Int) := by omega
        have hat := (HA.out k hlt).below HB.out.1 hb
        have lb : b < wr.heap.size := Nat.lt_of_lt_of_le hb HB.out.1.size
        have lx := lt_of HB.out.2
        obtain ⟨m, hm⟩ : ∃ m, m = f k := ⟨_, rfl⟩
        rw [← hm] at hat
        have HM := Lib.hid hm
        have HAT := Lib.hid hat
        clear hm hat
        obtain ⟨c, hc⟩ : ∃ c, c = cn (pCnt kd x) f k := ⟨_, rfl⟩
        rw [← hc] at hcl ⊢
        have HC := Lib.hid hc
        have hw : IntKind.u64.wrap ((c : Int) + 1) = (c : Int) + 1 := by rw [IntKind.wrap_u64]; omega
        clear hc
        by_cases d0 : m.k = kd
        · skip
          by_cases d1 : m.c = x.c
          · skip
            by_cases d2 : m.f = x.f
            · skip
              have H0 := Lib.hid (And.intro d0 (show (m.k == kd) = true by simpa using d0))
              have H1 := Lib.hid (And.intro d1 (show (m.c == x.c) = true by simpa using d1))
              have H2 := Lib.hid (And.intro d2 (show (m.f == x.f) = true by simpa using d2))
              have HP : Hid ((pCnt kd x) m = true) := Lib.hid (by simp [pCnt, d0, d1, d2])
              clear d0 d1 d2
              obtain ⟨c0, c1, c2, c3, c4, c5, c6, c7, c8⟩ := HAT.out
              have q := fun i => cell_of_row wr w.heap.size i _ _ (0, 0) HB.out.2
              have q0 := q 0; have q1 := q 1; have q2 := q 2; have q3 := q 3; have q4 := q 4
              clear q
              have HN : Hid (Below w.heap.size w (wr.alloc (.cells #[.int .i64 m.k, .int .u64 m.h, .int .i64 m.c, .int .i64 m.f, .int .u64 m.s, .int .u64 m.t, .string m.d, .string m.a] 33)) ∧ (wr.alloc (.cells #[.int .i64 m.k, .int .u64 m.h, .int .i64 m.c, .int .i64 m.f, .int .u64 m.s, .int .u64 m.t, .string m.d, .string m.a] 33)).heap[w.heap.size]? = some (.cells #[.int .i64 x.c, .int .i64 x.f, .int .u64 x.s, .int .u64 x.t, .string x.d] TPk (0, 0))) := Lib.hid ⟨HB.out.1.alloc HB.out.1.size _, al_of HB.out.2⟩
              obtain ⟨wn, hwn⟩ : ∃ X, X = wr.alloc (.cells #[.int .i64 m.k, .int .u64 m.h, .int .i64 m.c, .int .i64 m.f, .int .u64 m.s, .int .u64 m.t, .string m.d, .string m.a] 33) := ⟨_, rfl⟩
              rw [← hwn] at HN
              have e0 := cell_of_row wn wr.heap.size 0 _ _ (0, 0) (by rw [hwn]; exact heap_alloc_new wr _)
              have e2 := cell_of_row wn wr.heap.size 2 _ _ (0, 0) (by rw [hwn]; exact heap_alloc_new wr _)
              have e3 := cell_of_row wn wr.heap.size 3 _ _ (0, 0) (by rw [hwn]; exact heap_alloc_new wr _)
              have f := fun i => cell_of_row wn w.heap.size i _ _ (0, 0) HN.out.2
              have f0 := f 0; have f1 := f 1
              clear f
              go_upto_region 6 with fail
              rw [← hwn]
              clear hwn q0 q1 q2 q3 q4 c0 c1 c2 c3 c4 c5 c6 c7 c8
              have h0z := H0.out.1
              have h0b := H0.out.2
              have h1z := H1.out.1
              have h1b := H1.out.2
              have h2z := H2.out.1
              have h2b := H2.out.2
              go_wp2
              exact ⟨⟨k + 1, by go_num, by omega, by rw [cn_yes (by rw [← HM.out]; exact HP.out), ← HC.out]; first | rfl | (simp; done) | go_num, HN.out.1, HN.out.2⟩, by simp [intOf]; omega⟩
            · skip
              have H0 := Lib.hid (And.intro d0 (show (m.k == kd) = true by simpa using d0))
              have H1 := Lib.hid (And.intro d1 (show (m.c == x.c) = true by simpa using d1))
              have H2 := Lib.hid (And.intro d2 (show (m.f == x.f) = false by simpa using d2))
              have HP : Hid ((pCnt kd x) m = false) := Lib.hid (by simp [pCnt, d0, d1, d2])
              clear d0 d1 d2
              obtain ⟨c0, c1, c2, c3, c4, c5, c6, c7, c8⟩ := HAT.out
              have q := fun i => cell_of_row wr w.heap.size i _ _ (0, 0) HB.out.2
              have q0 := q 0; have q1 := q 1; have q2 := q 2; have q3 := q 3; have q4 := q 4
              clear q
              have HN : Hid (Below w.heap.size w (wr.alloc (.cells #[.int .i64 m.k, .int .u64 m.h, .int .i64 m.c, .int .i64 m.f, .int .u64 m.s, .int .u64 m.t, .string m.d, .string m.a] 33)) ∧ (wr.alloc (.cells #[.int .i64 m.k, .int .u64 m.h, .int .i64 m.c, .int .i64 m.f, .int .u64 m.s, .int .u64 m.t, .string m.d, .string m.a] 33)).heap[w.heap.size]? = some (.cells #[.int .i64 x.c, .int .i64 x.f, .int .u64 x.s, .int .u64 x.t, .string x.d] TPk (0, 0))) := Lib.hid ⟨HB.out.1.alloc HB.out.1.size _, al_of HB.out.2⟩
              obtain ⟨wn, hwn⟩ : ∃ X, X = wr.alloc (.cells #[.int .i64 m.k, .int .u64 m.h, .int .i64 m.c, .int .i64 m.f, .int .u64 m.s, .int .u64 m.t, .string m.d, .string m.a] 33) := ⟨_, rfl⟩
              rw [← hwn] at HN
              have e0 := cell_of_row wn wr.heap.size 0 _ _ (0, 0) (by rw [hwn]; exact heap_alloc_new wr _)
              have e2 := cell_of_row wn wr.heap.size 2 _ _ (0, 0) (by rw [hwn]; exact heap_alloc_new wr _)
              have e3 := cell_of_row wn wr.heap.size 3 _ _ (0, 0) (by rw [hwn]; exact heap_alloc_new wr _)
              have f := fun i => cell_of_row wn w.heap.size i _ _ (0, 0) HN.out.2
              have f0 := f 0; have f1 := f 1
              clear f
              go_upto_region 6 with fail
              rw [← hwn]
              clear hwn q0 q1 q2 q3 q4 c0 c1 c2 c3 c4 c5 c6 c7 c8
              have h0z := H0.out.1
              have h0b := H0.out.2
              have h1z := H1.out.1
              have h1b := H1.out.2
              have h2z := H2.out.1
              have h2b := H2.out.2
              go_wp2
              exact ⟨⟨k + 1, by go_num, by omega, by rw [cn_no (by rw [← HM.out]; exact HP.out), ← HC.out], HN.out.1, HN.out.2⟩, by simp [intOf]; omega⟩
          · skip
            have H0 := Lib.hid (And.intro d0 (show (m.k == kd) = true by simpa using d0))
            have H1 := Lib.hid (And.intro d1 (show (m.c == x.c) = false by simpa using d1))
            have HP : Hid ((pCnt kd x) m = false) := Lib.hid (by simp [pCnt, d0, d1])
            clear d0 d1
            obtain ⟨c0, c1, c2, c3, c4, c5, c6, c7, c8⟩ := HAT.out
            have q := fun i => cell_of_row wr w.heap.size i _ _ (0, 0) HB.out.2
            have q0 := q 0; have q1 := q 1; have q2 := q 2; have q3 := q 3; have q4 := q 4
            clear q
            have HN : Hid (Below w.heap.size w (wr.alloc (.cells #[.int .i64 m.k, .int .u64 m.h, .int .i64 m.c, .int .i64 m.f, .int .u64 m.s, .int .u64 m.t, .string m.d, .string m.a] 33)) ∧ (wr.alloc (.cells #[.int .i64 m.k, .int .u64 m.h, .int .i64 m.c, .int .i64 m.f, .int .u64 m.s, .int .u64 m.t, .string m.d, .string m.a] 33)).heap[w.heap.size]? = some (.cells #[.int .i64 x.c, .int .i64 x.f, .int .u64 x.s, .int .u64 x.t, .string x.d] TPk (0, 0))) := Lib.hid ⟨HB.out.1.alloc HB.out.1.size _, al_of HB.out.2⟩
            obtain ⟨wn, hwn⟩ : ∃ X, X = wr.alloc (.cells #[.int .i64 m.k, .int .u64 m.h, .int .i64 m.c, .int .i64 m.f, .int .u64 m.s, .int .u64 m.t, .string m.d, .string m.a] 33) := ⟨_, rfl⟩
            rw [← hwn] at HN
            have e0 := cell_of_row wn wr.heap.size 0 _ _ (0, 0) (by rw [hwn]; exact heap_alloc_new wr _)
            have e2 := cell_of_row wn wr.heap.size 2 _ _ (0, 0) (by rw [hwn]; exact heap_alloc_new wr _)
            have e3 := cell_of_row wn wr.heap.size 3 _ _ (0, 0) (by rw [hwn]; exact heap_alloc_new wr _)
            have f := fun i => cell_of_row wn w.heap.size i _ _ (0, 0) HN.out.2
            have f0 := f 0; have f1 := f 1
            clear f
            go_upto_region 6 with fail
            rw [← hwn]
            clear hwn q0 q1 q2 q3 q4 c0 c1 c2 c3 c4 c5 c6 c7 c8
            have h0z := H0.out.1
            have h0b := H0.out.2
            have h1z := H1.out.1
            have h1b := H1.out.2
            go_wp2
            exact ⟨⟨k + 1, by go_num, by omega, by rw [cn_no (by rw [← HM.out]; exact HP.out), ← HC.out], HN.out.1, HN.out.2⟩, by simp [intOf]; omega⟩
        · skip
          have H0 := Lib.hid (And.intro d0 (show (m.k == kd) = false by simpa using d0))
          have HP : Hid ((pCnt kd x) m = false) := Lib.hid (by simp [pCnt, d0])
          clear d0
          obtain ⟨c0, c1, c2, c3, c4, c5, c6, c7, c8⟩ := HAT.out
          have q := fun i => cell_of_row wr w.heap.size i _ _ (0, 0) HB.out.2
          have q0 := q 0; have q1 := q 1; have q2 := q 2; have q3 := q 3; have q4 := q 4
          clear q
          have HN : Hid (Below w.heap.size w (wr.alloc (.cells #[.int .i64 m.k, .int .u64 m.h, .int .i64 m.c, .int .i64 m.f, .int .u64 m.s, .int .u64 m.t, .string m.d, .string m.a] 33)) ∧ (wr.alloc (.cells #[.int .i64 m.k, .int .u64 m.h, .int .i64 m.c, .int .i64 m.f, .int .u64 m.s, .int .u64 m.t, .string m.d, .string m.a] 33)).heap[w.heap.size]? = some (.cells #[.int .i64 x.c, .int .i64 x.f, .int .u64 x.s, .int .u64 x.t, .string x.d] TPk (0, 0))) := Lib.hid ⟨HB.out.1.alloc HB.out.1.size _, al_of HB.out.2⟩
          obtain ⟨wn, hwn⟩ : ∃ X, X = wr.alloc (.cells #[.int .i64 m.k, .int .u64 m.h, .int .i64 m.c, .int .i64 m.f, .int .u64 m.s, .int .u64 m.t, .string m.d, .string m.a] 33) := ⟨_, rfl⟩
          rw [← hwn] at HN
          have e0 := cell_of_row wn wr.heap.size 0 _ _ (0, 0) (by rw [hwn]; exact heap_alloc_new wr _)
          have e2 := cell_of_row wn wr.heap.size 2 _ _ (0, 0) (by rw [hwn]; exact heap_alloc_new wr _)
          have e3 := cell_of_row wn wr.heap.size 3 _ _ (0, 0) (by rw [hwn]; exact heap_alloc_new wr _)
          have f := fun i => cell_of_row wn w.heap.size i _ _ (0, 0) HN.out.2
          have f0 := f 0; have f1 := f 1
          clear f
          go_upto_region 6 with fail
          rw [← hwn]
          clear hwn q0 q1 q2 q3 q4 c0 c1 c2 c3 c4 c5 c6 c7 c8
          have h0z := H0.out.1
          have h0b := H0.out.2
          go_wp2
          exact ⟨⟨k + 1, by go_num, by omega, by rw [cn_no (by rw [← HM.out]; exact HP.out), ← HC.out], HN.out.1, HN.out.2⟩, by simp [intOf]; omega⟩
      · obtain rfl : k = n := by omega
        skip
        skip
        go_wp2
        go_ret
        exact ⟨by rfl, HB.out.1⟩
end Go.Proofs.Ytfojmjgnndlfnab.Tr
