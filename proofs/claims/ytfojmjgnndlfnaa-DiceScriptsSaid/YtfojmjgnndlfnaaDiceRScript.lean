/- The page's dice: a script. -/
import Derived.Test.YtfojmjgnndlfnaaDiceRSend
import Derived.Test.YtfojmjgnndlfnaaDiceScript
namespace Go.Proofs.Ytfojmjgnndlfnaa.DiceW
open Go Go.RowKit Conf Dice

/-- while a script is thrown -/
structure CBR (w V : World) (g : Nat) (st : Int) (c : Cfg) : Prop where
  d : D TR V g st
  cfg : V.heap[w.heap.size]? = some (.cells #[.slice c.A c.n c.cap, .int .i64 c.f1, .int .i64 c.f2, .int .i64 c.f3, .int .i64 c.f4, .int .i64 c.f5, .int .i64 c.f6, .int .i64 c.f7, .int .i64 c.f8, .int .i64 c.f9, .int .i64 c.f10, .int .u64 c.f11] TCf (0, 0))
  on : On g w V
  lt : g < w.heap.size
theorem CBR.call {w V V' : World} {g : Nat} {st st' : Int} {c : Cfg} (h : CBR w V g st c) (hd : D TR V' g st') (ho : On g V V') : CBR w V' g st' c :=
  ⟨hd, (ho.block _ (blk_lt h.cfg) (by have := h.lt; omega)).trans h.cfg, h.on.trans ho, h.lt⟩
theorem CBR.below {w V V' : World} {g : Nat} {st : Int} {c : Cfg} (h : CBR w V g st c) (hb : Below V.heap.size V V') : CBR w V' g st c :=
  h.call ((hb.block _ (blk_lt h.d)).trans h.d) (On.of_below hb)
theorem CBR.grown {w V V' : World} {g : Nat} {st : Int} {c : Cfg} {row : Option Nat} (h : CBR w V g st c) (hg : V.grownBy V' row) (hr : ∀ i, row = some i → w.heap.size < i) : CBR w V' g st c :=
  ⟨(hg.block g (blk_lt h.d) (fun e => by have := hr g e.symm; have := h.lt; omega)).trans h.d, (hg.block _ (blk_lt h.cfg) (fun e => by have := hr _ e.symm; omega)).trans h.cfg, h.on.grown hg (fun i hi => Nat.le_of_lt (hr i hi)), h.lt⟩
set_option maxRecDepth 20000 in
set_option maxHeartbeats 8000000 in
theorem rscript_any {w : World} {g : Nat} {st : Int} (c : Cfg) (hW : ∀ V, Calls Try.prog 10 #[.agg c.cells] V fun e w' => e = .returned (.string ⟨#[]⟩) ∧ Below V.heap.size V w') (F : Int → S8 × Int)
    (hS : ∀ (V : World) (s : Int), D TR V g s → Calls Try.prog 18 #[.pointer (some ⟨g, 0, none⟩), .agg c.cells] V fun e w' => e = .returned (.agg (F s).1.cells) ∧ D TR w' g (F s).2 ∧ On g V w') (m : Nat) (hm : m ≤ 200) (h : D TR w g st) :
    Calls Try.prog 12 #[.pointer (some ⟨g, 0, none⟩), .agg c.cells, .int .i64 ((m : Int) + 1)] w fun e w' => (∃ v, e = .returned v ∧ w'.ownsRow w.heap.size TSt 8 v (m + 1) (vals (scrG F m st).1)) ∧ D TR w' g (scrG F m st).2 ∧ On g w w' := by
  obtain ⟨i0, hi, hz0, hz1, hz2⟩ := info_partsN infoS
  have hlt := blk_lt h
  have HW := Lib.hid hW
  have HS := Lib.hid hS
  unfold Cfg.cells at HW HS ⊢
  have h0 : CBR w (w.alloc (.cells #[.slice c.A c.n c.cap, .int .i64 c.f1, .int .i64 c.f2, .int .i64 c.f3, .int .i64 c.f4, .int .i64 c.f5, .int .i64 c.f6, .int .i64 c.f7, .int .i64 c.f8, .int .i64 c.f9, .int .i64 c.f10, .int .u64 c.f11] TCf)) g st c := ⟨blk_alloc h, heap_alloc_new w _, (On.refl _ _).alloc _, hlt⟩
  obtain ⟨w0, hw0⟩ : ∃ X, X = w.alloc (.cells #[.slice c.A c.n c.cap, .int .i64 c.f1, .int .i64 c.f2, .int .i64 c.f3, .int .i64 c.f4, .int .i64 c.f5, .int .i64 c.f6, .int .i64 c.f7, .int .i64 c.f8, .int .i64 c.f9, .int .i64 c.f10, .int .u64 c.f11] TCf) := ⟨_, rfl⟩
  rw [← hw0] at h0
  have H0 := Lib.hid h0
  have qq := fun i => cell_of_row w0 w.heap.size i _ _ (0, 0) h0.cfg
  have q0 := qq 0; have q1 := qq 1; have q2 := qq 2; have q3 := qq 3; have q4 := qq 4; have q5 := qq 5; have q6 := qq 6; have q7 := qq 7; have q8 := qq 8; have q9 := qq 9; have q10 := qq 10; have q11 := qq 11
  clear qq h0 h hW hS
  have hm0 : (1 : Int) ≤ (m : Int) + 1 := by omega
  have hm1 : (m : Int) + 1 ≤ 201 := by omega
  go_enter Try.func12, Try.ntmps12
  go_upto_region 1 with fail
  rw [← hw0]
  clear hw0
  go_wp2_with fail
  refine (HW.out _).mono ?_
  rintro _ w1 ⟨rfl, b1⟩
  clear q0 q1 q2 q3 q4 q5 q6 q7 q8 q9 q10 q11
  have h1 := H0.out.below b1
  have hr : (w1.alloc (.cells #[.int .i64 8, .int .i64 0, .int .i64 0, .int .i64 0, .int .i64 0, .int .u64 0, .int .u64 0, .string ⟨#[]⟩] TSt)).ownsRow (w.heap.size + 1) TSt 8 (.slice (some ⟨w1.heap.size, 0, none⟩) 1 1) 1 (vals (scrG F 0 st).1) := by
    rw [scrG_0, vals_one]
    exact ⟨rfl, Or.inr ⟨w1.heap.size, 1, #[.int .i64 8, .int .i64 0, .int .i64 0, .int .i64 0, .int .i64 0, .int .u64 0, .int .u64 0, .string ⟨#[]⟩], rfl, blk_lt h1.cfg, heap_alloc_new w1 _, by decide, by decide, rfl, rfl⟩⟩
  have h2 := h1.below ((Below.refl w1.heap.size w1).alloc (Nat.le_refl _) (.cells #[.int .i64 8, .int .i64 0, .int .i64 0, .int .i64 0, .int .i64 0, .int .u64 0, .int .u64 0, .string ⟨#[]⟩] TSt))
  obtain ⟨w2, hw2⟩ : ∃ X, X = w1.alloc (.cells #[.int .i64 8, .int .i64 0, .int .i64 0, .int .i64 0, .int .i64 0, .int .u64 0, .int .u64 0, .string ⟨#[]⟩] TSt) := ⟨_, rfl⟩
  obtain ⟨v2, hv2⟩ : ∃ X, X = Value.slice (some ⟨w1.heap.size, 0, none⟩) 1 1 := ⟨_, rfl⟩
  rw [← hw2, ← hv2] at hr
  rw [← hw2] at h2
  have H2 := Lib.hid (And.intro h2 hr)
  clear b1 h1 h2 hr H0 HW
  go_upto_region 4 with fail
  rw [← hw2, ← hv2]
  clear hw2 hv2
  go_wp2
  go_loopw [7, 8] (fun l i wr => ∃ k : Nat, i = .int .i64 ((k : Int) + 1) ∧ k ≤ m ∧ CBR w wr g (scrG F k st).2 c ∧ wr.ownsRow (w.heap.size + 1) TSt 8 l (k + 1) (vals (scrG F k st).1)) (fun _ i _ => m + 1 - (intOf i).toNat)
  case atStart => exact ⟨0, by simp, Nat.zero_le _, by rw [scrG_0]; exact H2.out.1, H2.out.2⟩
  case round =>
    obtain ⟨k, rfl, hk, hcb, hrow⟩ := hrel
    obtain ⟨A7, c7, rfl⟩ := own_formM hrow
    have HCB := Lib.hid hcb
    have HRow := Lib.hid hrow
    clear hrow
    by_cases hlt2 : k < m
    · have hlt3 : (k : Int) < (m : Int) := by omega
      have qq := fun i => cell_of_row wr w.heap.size i _ _ (0, 0) hcb.cfg
      have q0 := qq 0; have q1 := qq 1; have q2 := qq 2; have q3 := qq 3; have q4 := qq 4; have q5 := qq 5; have q6 := qq 6; have q7 := qq 7; have q8 := qq 8; have q9 := qq 9; have q10 := qq 10; have q11 := qq 11
      have HS5 := Lib.hid (HS.out _ _ hcb.d)
      obtain ⟨x, hx⟩ : ∃ x, x = (F (scrG F k st).2).1 := ⟨_, rfl⟩
      obtain ⟨s', hs'⟩ : ∃ s', s' = (F (scrG F k st).2).2 := ⟨_, rfl⟩
      rw [← hx, ← hs'] at HS5
      unfold S8.cells at HS5
      have HX := Lib.hid (And.intro hx hs')
      clear qq hcb hx hs'
      go_wp2_with fail
      refine HS5.out.mono ?_
      rintro _ w5 ⟨rfl, d, o⟩
      have H5 := Lib.hid (HCB.out.call d o)
      have hr5 := own_on HRow.out o (by omega)
      have HR5 := Lib.hid (own_below hr5 ((Below.refl _ w5).alloc (Nat.le_refl _) (.cells #[.int .i64 x.k, .int .i64 x.sd, .int .i64 x.n, .int .i64 x.c, .int .i64 x.f, .int .u64 x.s, .int .u64 x.t, .string x.d] TSt)))
      have H6 := Lib.hid (H5.out.below ((Below.refl _ w5).alloc (Nat.le_refl _) (.cells #[.int .i64 x.k, .int .i64 x.sd, .int .i64 x.n, .int .i64 x.c, .int .i64 x.f, .int .u64 x.s, .int .u64 x.t, .string x.d] TSt)))
      have HN6 := Lib.hid (new_cells w5 TSt #[.int .i64 x.k, .int .i64 x.sd, .int .i64 x.n, .int .i64 x.c, .int .i64 x.f, .int .u64 x.s, .int .u64 x.t, .string x.d])
      have hlw : w.heap.size + 1 ≤ w5.heap.size := blk_lt H5.out.cfg
      have HLW := Lib.hid hlw
      clear d o hr5 hlw q0 q1 q2 q3 q4 q5 q6 q7 q8 q9 q10 q11
      go_wp2_with (at_builtin; go_loud (refine wpList_append_own _ rfl _ _ 36 rfl (w.heap.size + 1) TSt i0 _ 8 72 Try.underlying36 hi hz0 hz1 hz2 rfl (by decide) _ _ _ rfl HR5.out ⟨w5.heap.size, 0, none⟩ 1 1 [.int .i64 x.k, .int .i64 x.sd, .int .i64 x.n, .int .i64 x.c, .int .i64 x.f, .int .u64 x.s, .int .u64 x.t, .string x.d] rfl rfl HN6.out (cells8_one x) (by unfold maxLen; omega) (by omega) (by have := HLW.out; simp; omega) ?_; intro v7 w7 hown hg _; have HO7 := Lib.hid (And.intro hown (H6.out.grown hg (fun i hi => by have := own_ge HR5.out i hi; omega))); clear hown hg))
      go_wp2
      go_roundw
      case rel =>
        refine ⟨k + 1, by go_num, by omega, ?_, ?_⟩
        · rw [scrG_s, ← HX.out.2]
          exact HO7.out.2
        · have e : vals (scrG F (k + 1) st).1 = vals (scrG F k st).1 ++ [.int .i64 x.k, .int .i64 x.sd, .int .i64 x.n, .int .i64 x.c, .int .i64 x.f, .int .u64 x.s, .int .u64 x.t, .string x.d] := by
            rw [scrG_l, vals_app, ← HX.out.1, vals_one]
          rw [e]
          exact HO7.out.1
      case measure => simp [intOf]; omega
    · have hmk : (m : Int) ≤ (k : Int) := by omega
      obtain rfl : k = m := by omega
      clear hcb
      go_wp2
      go_ret
      exact ⟨⟨_, rfl, own_base HRow.out (Nat.le_succ _)⟩, HCB.out.d, HCB.out.on⟩
end Go.Proofs.Ytfojmjgnndlfnaa.DiceW
