/- Dice: no script: of a config that may not be, too few steps, too many. -/
import Derived.Test.YtfojmjgnndlfnaaDiceRScript
import Derived.Test.YtfojmjgnndlfnaaConfWrong0
namespace Go.Proofs.Ytfojmjgnndlfnaa.DiceW
open Go Go.RowKit Conf Dice
set_option linter.unusedVariables false

theorem word_ne : ∀ k, k < 11 → (word k == (⟨#[]⟩ : ByteArray)) = false ∧ ¬ (word k).toList = [] := by decide +kernel
set_option maxRecDepth 20000 in
set_option maxHeartbeats 4000000 in
theorem script_wrong {w : World} {g : Nat} {st : Int} (c : Cfg) (hn : c.n ≤ 20) (n : Int) (hx : ¬ code c 11 0 = 0) (h : D TD w g st) :
    Calls Try.prog 11 #[.pointer (some ⟨g, 0, none⟩), .agg c.cells, .int .i64 n] w fun e w' => e = .returned (.slice none 0 0) ∧ D TD w' g st ∧ On g w w' := by
  have hlt := blk_lt h
  have HW := Lib.hid (fun V => workers_20 c hn V)
  rw [if_neg hx] at HW
  unfold Cfg.cells at HW ⊢
  have h0 : CB w (w.alloc (.cells #[.slice c.A c.n c.cap, .int .i64 c.f1, .int .i64 c.f2, .int .i64 c.f3, .int .i64 c.f4, .int .i64 c.f5, .int .i64 c.f6, .int .i64 c.f7, .int .i64 c.f8, .int .i64 c.f9, .int .i64 c.f10, .int .u64 c.f11] TCf)) g st c := ⟨blk_alloc h, heap_alloc_new w _, (On.refl _ _).alloc _, hlt⟩
  obtain ⟨w0, hw0⟩ : ∃ X, X = w.alloc (.cells #[.slice c.A c.n c.cap, .int .i64 c.f1, .int .i64 c.f2, .int .i64 c.f3, .int .i64 c.f4, .int .i64 c.f5, .int .i64 c.f6, .int .i64 c.f7, .int .i64 c.f8, .int .i64 c.f9, .int .i64 c.f10, .int .u64 c.f11] TCf) := ⟨_, rfl⟩
  rw [← hw0] at h0
  have H0 := Lib.hid h0
  have qq := fun i => cell_of_row w0 w.heap.size i _ _ (0, 0) h0.cfg
  have q0 := qq 0; have q1 := qq 1; have q2 := qq 2; have q3 := qq 3; have q4 := qq 4; have q5 := qq 5; have q6 := qq 6; have q7 := qq 7; have q8 := qq 8; have q9 := qq 9; have q10 := qq 10; have q11 := qq 11
  clear qq h0 h
  go_enter Try.func11, Try.ntmps11
  go_upto_region 1 with fail
  rw [← hw0]
  clear hw0
  go_wp2_with fail
  refine (HW.out _).mono ?_
  rintro _ w1 ⟨rfl, b1⟩
  have H1 := Lib.hid (H0.out.below b1)
  clear b1 H0 q0 q1 q2 q3 q4 q5 q6 q7 q8 q9 q10 q11
  go_wp2
  go_ret
  exact ⟨rfl, H1.out.d, H1.out.on⟩
set_option maxRecDepth 20000 in
set_option maxHeartbeats 4000000 in
theorem script_few {w : World} {g : Nat} {st : Int} (c : Cfg) (hn : c.n ≤ 20) (n : Int) (hx : code c 11 0 = 0 ∧ n < 1 ∧ 1 ≤ c.n) (h : D TD w g st) :
    Calls Try.prog 11 #[.pointer (some ⟨g, 0, none⟩), .agg c.cells, .int .i64 n] w fun e w' => e = .returned (.slice none 0 0) ∧ D TD w' g st ∧ On g w w' := by
  have hlt := blk_lt h
  have HW := Lib.hid (fun V => workers_20 c hn V)
  rw [if_pos hx.1] at HW
  obtain ⟨q, hq⟩ : ∃ q : Int, q = 2 * (c.n : Int) := ⟨_, rfl⟩
  rw [← hq] at HW
  have hq1 : ¬ q = 0 := by have := hx.2.2; omega
  have hq2 : (q == 0) = false := by simpa using hq1
  have hx2 := hx.2.1
  clear hq hx
  unfold Cfg.cells at HW ⊢
  have h0 : CB w (w.alloc (.cells #[.slice c.A c.n c.cap, .int .i64 c.f1, .int .i64 c.f2, .int .i64 c.f3, .int .i64 c.f4, .int .i64 c.f5, .int .i64 c.f6, .int .i64 c.f7, .int .i64 c.f8, .int .i64 c.f9, .int .i64 c.f10, .int .u64 c.f11] TCf)) g st c := ⟨blk_alloc h, heap_alloc_new w _, (On.refl _ _).alloc _, hlt⟩
  obtain ⟨w0, hw0⟩ : ∃ X, X = w.alloc (.cells #[.slice c.A c.n c.cap, .int .i64 c.f1, .int .i64 c.f2, .int .i64 c.f3, .int .i64 c.f4, .int .i64 c.f5, .int .i64 c.f6, .int .i64 c.f7, .int .i64 c.f8, .int .i64 c.f9, .int .i64 c.f10, .int .u64 c.f11] TCf) := ⟨_, rfl⟩
  rw [← hw0] at h0
  have H0 := Lib.hid h0
  have qq := fun i => cell_of_row w0 w.heap.size i _ _ (0, 0) h0.cfg
  have q0 := qq 0; have q1 := qq 1; have q2 := qq 2; have q3 := qq 3; have q4 := qq 4; have q5 := qq 5; have q6 := qq 6; have q7 := qq 7; have q8 := qq 8; have q9 := qq 9; have q10 := qq 10; have q11 := qq 11
  clear qq h0 h
  go_enter Try.func11, Try.ntmps11
  go_upto_region 1 with fail
  rw [← hw0]
  clear hw0
  go_wp2_with fail
  refine (HW.out _).mono ?_
  rintro _ w1 ⟨rfl, b1⟩
  have H1 := Lib.hid (H0.out.below b1)
  clear b1 H0 q0 q1 q2 q3 q4 q5 q6 q7 q8 q9 q10 q11
  go_wp2
  go_ret
  exact ⟨rfl, H1.out.d, H1.out.on⟩
set_option maxRecDepth 20000 in
set_option maxHeartbeats 4000000 in
theorem script_many {w : World} {g : Nat} {st : Int} (c : Cfg) (hn : c.n ≤ 20) (n : Int) (hx : code c 11 0 = 0 ∧ 1024 < n ∧ 1 ≤ c.n) (h : D TD w g st) :
    Calls Try.prog 11 #[.pointer (some ⟨g, 0, none⟩), .agg c.cells, .int .i64 n] w fun e w' => e = .returned (.slice none 0 0) ∧ D TD w' g st ∧ On g w w' := by
  have hlt := blk_lt h
  have HW := Lib.hid (fun V => workers_20 c hn V)
  rw [if_pos hx.1] at HW
  obtain ⟨q, hq⟩ : ∃ q : Int, q = 2 * (c.n : Int) := ⟨_, rfl⟩
  rw [← hq] at HW
  have hq1 : ¬ q = 0 := by have := hx.2.2; omega
  have hq2 : (q == 0) = false := by simpa using hq1
  have hx2 := hx.2.1
  clear hq hx
  unfold Cfg.cells at HW ⊢
  have h0 : CB w (w.alloc (.cells #[.slice c.A c.n c.cap, .int .i64 c.f1, .int .i64 c.f2, .int .i64 c.f3, .int .i64 c.f4, .int .i64 c.f5, .int .i64 c.f6, .int .i64 c.f7, .int .i64 c.f8, .int .i64 c.f9, .int .i64 c.f10, .int .u64 c.f11] TCf)) g st c := ⟨blk_alloc h, heap_alloc_new w _, (On.refl _ _).alloc _, hlt⟩
  obtain ⟨w0, hw0⟩ : ∃ X, X = w.alloc (.cells #[.slice c.A c.n c.cap, .int .i64 c.f1, .int .i64 c.f2, .int .i64 c.f3, .int .i64 c.f4, .int .i64 c.f5, .int .i64 c.f6, .int .i64 c.f7, .int .i64 c.f8, .int .i64 c.f9, .int .i64 c.f10, .int .u64 c.f11] TCf) := ⟨_, rfl⟩
  rw [← hw0] at h0
  have H0 := Lib.hid h0
  have qq := fun i => cell_of_row w0 w.heap.size i _ _ (0, 0) h0.cfg
  have q0 := qq 0; have q1 := qq 1; have q2 := qq 2; have q3 := qq 3; have q4 := qq 4; have q5 := qq 5; have q6 := qq 6; have q7 := qq 7; have q8 := qq 8; have q9 := qq 9; have q10 := qq 10; have q11 := qq 11
  clear qq h0 h
  go_enter Try.func11, Try.ntmps11
  go_upto_region 1 with fail
  rw [← hw0]
  clear hw0
  go_wp2_with fail
  refine (HW.out _).mono ?_
  rintro _ w1 ⟨rfl, b1⟩
  have H1 := Lib.hid (H0.out.below b1)
  clear b1 H0 q0 q1 q2 q3 q4 q5 q6 q7 q8 q9 q10 q11
  go_wp2
  go_ret
  exact ⟨rfl, H1.out.d, H1.out.on⟩
set_option maxRecDepth 20000 in
set_option maxHeartbeats 4000000 in
theorem rscript_wrong {w : World} {g : Nat} {st : Int} (c : Cfg) (hn : c.n ≤ 20) (n : Int) (hx : ∃ k, k < 11 ∧ wrong c 11 0 = word k) (h : D TR w g st) :
    Calls Try.prog 12 #[.pointer (some ⟨g, 0, none⟩), .agg c.cells, .int .i64 n] w fun e w' => e = .returned (.slice none 0 0) ∧ D TR w' g st ∧ On g w w' := by
  have hlt := blk_lt h
  obtain ⟨k, hk, hwk⟩ := hx
  have HW := Lib.hid (fun V => hwk ▸ ref_wrong c V)
  obtain ⟨s, hs⟩ : ∃ s, s = word k := ⟨_, rfl⟩
  rw [← hs] at HW
  have hs1 := hs ▸ (word_ne k hk).1
  have hs2 := hs ▸ (word_ne k hk).2
  clear hs hwk
  unfold Cfg.cells at HW ⊢
  have h0 : CBR w (w.alloc (.cells #[.slice c.A c.n c.cap, .int .i64 c.f1, .int .i64 c.f2, .int .i64 c.f3, .int .i64 c.f4, .int .i64 c.f5, .int .i64 c.f6, .int .i64 c.f7, .int .i64 c.f8, .int .i64 c.f9, .int .i64 c.f10, .int .u64 c.f11] TCf)) g st c := ⟨blk_alloc h, heap_alloc_new w _, (On.refl _ _).alloc _, hlt⟩
  obtain ⟨w0, hw0⟩ : ∃ X, X = w.alloc (.cells #[.slice c.A c.n c.cap, .int .i64 c.f1, .int .i64 c.f2, .int .i64 c.f3, .int .i64 c.f4, .int .i64 c.f5, .int .i64 c.f6, .int .i64 c.f7, .int .i64 c.f8, .int .i64 c.f9, .int .i64 c.f10, .int .u64 c.f11] TCf) := ⟨_, rfl⟩
  rw [← hw0] at h0
  have H0 := Lib.hid h0
  have qq := fun i => cell_of_row w0 w.heap.size i _ _ (0, 0) h0.cfg
  have q0 := qq 0; have q1 := qq 1; have q2 := qq 2; have q3 := qq 3; have q4 := qq 4; have q5 := qq 5; have q6 := qq 6; have q7 := qq 7; have q8 := qq 8; have q9 := qq 9; have q10 := qq 10; have q11 := qq 11
  clear qq h0 h
  go_enter Try.func12, Try.ntmps12
  go_upto_region 1 with fail
  rw [← hw0]
  clear hw0
  go_wp2_with fail
  refine (HW.out _).mono ?_
  rintro _ w1 ⟨rfl, b1⟩
  have H1 := Lib.hid (H0.out.below b1)
  clear b1 H0 q0 q1 q2 q3 q4 q5 q6 q7 q8 q9 q10 q11
  go_wp2
  go_ret
  exact ⟨rfl, H1.out.d, H1.out.on⟩
set_option maxRecDepth 20000 in
set_option maxHeartbeats 4000000 in
theorem rscript_few {w : World} {g : Nat} {st : Int} (c : Cfg) (hn : c.n ≤ 20) (n : Int) (hx : wrong c 11 0 = ⟨#[]⟩ ∧ n < 1) (h : D TR w g st) :
    Calls Try.prog 12 #[.pointer (some ⟨g, 0, none⟩), .agg c.cells, .int .i64 n] w fun e w' => e = .returned (.slice none 0 0) ∧ D TR w' g st ∧ On g w w' := by
  have hlt := blk_lt h
  have HW := Lib.hid (fun V => hx.1 ▸ ref_wrong c V)
  have hx2 := hx.2
  clear hx
  unfold Cfg.cells at HW ⊢
  have h0 : CBR w (w.alloc (.cells #[.slice c.A c.n c.cap, .int .i64 c.f1, .int .i64 c.f2, .int .i64 c.f3, .int .i64 c.f4, .int .i64 c.f5, .int .i64 c.f6, .int .i64 c.f7, .int .i64 c.f8, .int .i64 c.f9, .int .i64 c.f10, .int .u64 c.f11] TCf)) g st c := ⟨blk_alloc h, heap_alloc_new w _, (On.refl _ _).alloc _, hlt⟩
  obtain ⟨w0, hw0⟩ : ∃ X, X = w.alloc (.cells #[.slice c.A c.n c.cap, .int .i64 c.f1, .int .i64 c.f2, .int .i64 c.f3, .int .i64 c.f4, .int .i64 c.f5, .int .i64 c.f6, .int .i64 c.f7, .int .i64 c.f8, .int .i64 c.f9, .int .i64 c.f10, .int .u64 c.f11] TCf) := ⟨_, rfl⟩
  rw [← hw0] at h0
  have H0 := Lib.hid h0
  have qq := fun i => cell_of_row w0 w.heap.size i _ _ (0, 0) h0.cfg
  have q0 := qq 0; have q1 := qq 1; have q2 := qq 2; have q3 := qq 3; have q4 := qq 4; have q5 := qq 5; have q6 := qq 6; have q7 := qq 7; have q8 := qq 8; have q9 := qq 9; have q10 := qq 10; have q11 := qq 11
  clear qq h0 h
  go_enter Try.func12, Try.ntmps12
  go_upto_region 1 with fail
  rw [← hw0]
  clear hw0
  go_wp2_with fail
  refine (HW.out _).mono ?_
  rintro _ w1 ⟨rfl, b1⟩
  have H1 := Lib.hid (H0.out.below b1)
  clear b1 H0 q0 q1 q2 q3 q4 q5 q6 q7 q8 q9 q10 q11
  go_wp2
  go_ret
  exact ⟨rfl, H1.out.d, H1.out.on⟩
set_option maxRecDepth 20000 in
set_option maxHeartbeats 4000000 in
theorem rscript_many {w : World} {g : Nat} {st : Int} (c : Cfg) (hn : c.n ≤ 20) (n : Int) (hx : wrong c 11 0 = ⟨#[]⟩ ∧ 1024 < n) (h : D TR w g st) :
    Calls Try.prog 12 #[.pointer (some ⟨g, 0, none⟩), .agg c.cells, .int .i64 n] w fun e w' => e = .returned (.slice none 0 0) ∧ D TR w' g st ∧ On g w w' := by
  have hlt := blk_lt h
  have HW := Lib.hid (fun V => hx.1 ▸ ref_wrong c V)
  have hx2 := hx.2
  clear hx
  unfold Cfg.cells at HW ⊢
  have h0 : CBR w (w.alloc (.cells #[.slice c.A c.n c.cap, .int .i64 c.f1, .int .i64 c.f2, .int .i64 c.f3, .int .i64 c.f4, .int .i64 c.f5, .int .i64 c.f6, .int .i64 c.f7, .int .i64 c.f8, .int .i64 c.f9, .int .i64 c.f10, .int .u64 c.f11] TCf)) g st c := ⟨blk_alloc h, heap_alloc_new w _, (On.refl _ _).alloc _, hlt⟩
  obtain ⟨w0, hw0⟩ : ∃ X, X = w.alloc (.cells #[.slice c.A c.n c.cap, .int .i64 c.f1, .int .i64 c.f2, .int .i64 c.f3, .int .i64 c.f4, .int .i64 c.f5, .int .i64 c.f6, .int .i64 c.f7, .int .i64 c.f8, .int .i64 c.f9, .int .i64 c.f10, .int .u64 c.f11] TCf) := ⟨_, rfl⟩
  rw [← hw0] at h0
  have H0 := Lib.hid h0
  have qq := fun i => cell_of_row w0 w.heap.size i _ _ (0, 0) h0.cfg
  have q0 := qq 0; have q1 := qq 1; have q2 := qq 2; have q3 := qq 3; have q4 := qq 4; have q5 := qq 5; have q6 := qq 6; have q7 := qq 7; have q8 := qq 8; have q9 := qq 9; have q10 := qq 10; have q11 := qq 11
  clear qq h0 h
  go_enter Try.func12, Try.ntmps12
  go_upto_region 1 with fail
  rw [← hw0]
  clear hw0
  go_wp2_with fail
  refine (HW.out _).mono ?_
  rintro _ w1 ⟨rfl, b1⟩
  have H1 := Lib.hid (H0.out.below b1)
  clear b1 H0 q0 q1 q2 q3 q4 q5 q6 q7 q8 q9 q10 q11
  go_wp2
  go_ret
  exact ⟨rfl, H1.out.d, H1.out.on⟩
end Go.Proofs.Ytfojmjgnndlfnaa.DiceW
