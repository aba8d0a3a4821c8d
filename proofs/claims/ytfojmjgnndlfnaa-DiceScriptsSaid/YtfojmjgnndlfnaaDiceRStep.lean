/- The page's dice: a step, all kinds but a packet's (XDiceRSend). -/
import Derived.Test.YtfojmjgnndlfnaaDiceStep
import Derived.Test.YtfojmjgnndlfnaaDice
import Derived.Deep.WholeRow
namespace Go.Proofs.Ytfojmjgnndlfnaa.DiceW
open Go Go.RowKit Conf Dice
set_option linter.unusedVariables false

theorem rbelow_on {w : World} {g : Nat} {st n : Int} (h : D TR w g st) (h1 : n ≤ 9223372036854775807) : Calls Try.prog 20 #[.pointer (some ⟨g, 0, none⟩), .int .i64 n] w fun e w' => e = .returned (.int .i64 (belZ st n)) ∧ D TR w' g (nxZ st n) ∧ On g w w' :=
  (ref_below_z h h1).mono fun _ _ h => ⟨h.1, h.2.1, h.2.2.2.os, h.2.2.2.tape, h.2.2.2.output, h.2.2.2.size, fun k _ hk => h.2.2.1 k hk⟩
/-- while a step is thrown -/
structure SBR (w V : World) (g S : Nat) (st : Int) (c : Cfg) (cs : Array Value) : Prop where
  d : D TR V g st
  cfg : V.heap[w.heap.size]? = some (.cells #[.slice c.A c.n c.cap, .int .i64 c.f1, .int .i64 c.f2, .int .i64 c.f3, .int .i64 c.f4, .int .i64 c.f5, .int .i64 c.f6, .int .i64 c.f7, .int .i64 c.f8, .int .i64 c.f9, .int .i64 c.f10, .int .u64 c.f11] TCf (0, 0))
  res : V.heap[w.heap.size + 1]? = some (.cells #[.int .i64 0, .int .i64 0, .int .i64 0, .int .i64 0, .int .i64 0, .int .u64 0, .int .u64 0, .string ⟨#[]⟩] TSt (0, 0))
  box : V.heap[S]? = some (.cells cs TSt (0, 0))
  on : On g w V
  lt : g < w.heap.size ∧ w.heap.size + 1 < S
theorem SBR.call {w V V' : World} {g S : Nat} {st st' : Int} {c : Cfg} {cs : Array Value} (h : SBR w V g S st c cs) (hd : D TR V' g st') (ho : On g V V') : SBR w V' g S st' c cs :=
  ⟨hd, (ho.block _ (blk_lt h.cfg) (by have := h.lt; omega)).trans h.cfg, (ho.block _ (blk_lt h.res) (by have := h.lt; omega)).trans h.res, (ho.block _ (blk_lt h.box) (by have := h.lt; omega)).trans h.box, h.on.trans ho, h.lt⟩
theorem SBR.set {w V : World} {g S : Nat} {st : Int} {c : Cfg} {cs : Array Value} (h : SBR w V g S st c cs) (i : Nat) (v : Value) : SBR w (V.setCell ⟨S, i, none⟩ v) g S st c (cs.setIfInBounds i v) :=
  ⟨blk_far h.d (by have := h.lt; omega), blk_far h.cfg (by have := h.lt; omega), blk_far h.res (by have := h.lt; omega), set_at v h.box, h.on.set (by have := h.lt; omega) i v, h.lt⟩
set_option maxRecDepth 20000 in
set_option maxHeartbeats 8000000 in
theorem rstep_0 {w : World} {g : Nat} {st : Int} (c : Cfg) (h1 : 1 ≤ c.n) (h4 : c.n ≤ 4) (ha : c.f1 ≤ 9223372036854775807) (h : D TR w g st) (h27 : belZ st 40 ≤ 27) : Calls Try.prog 18 #[.pointer (some ⟨g, 0, none⟩), .agg c.cells] w fun e w' => e = .returned (.agg (stepF st (c.n : Int) c.f1).1.cells) ∧ D TR w' g (stepF st (c.n : Int) c.f1).2 ∧ On g w w' := by
  have hlt := blk_lt h
  have hmm : 2 * (c.n : Int) ≤ 9223372036854775807 := by omega
  have hnn : (c.n : Int) ≤ 9223372036854775807 := by omega
  have hn4 : (c.n : Int) ≤ 4 := by omega
  have hn0 : (0 : Int) ≤ (c.n : Int) := by omega
  have HN := Lib.hid (And.intro hmm (And.intro hnn ha))
  unfold Cfg.cells
  have d0 : D TR ((w.alloc (.cells #[.slice c.A c.n c.cap, .int .i64 c.f1, .int .i64 c.f2, .int .i64 c.f3, .int .i64 c.f4, .int .i64 c.f5, .int .i64 c.f6, .int .i64 c.f7, .int .i64 c.f8, .int .i64 c.f9, .int .i64 c.f10, .int .u64 c.f11] TCf)).alloc (.cells #[.int .i64 0, .int .i64 0, .int .i64 0, .int .i64 0, .int .i64 0, .int .u64 0, .int .u64 0, .string ⟨#[]⟩] TSt)) g st := blk_alloc (blk_alloc h)
  have cf0 : ((w.alloc (.cells #[.slice c.A c.n c.cap, .int .i64 c.f1, .int .i64 c.f2, .int .i64 c.f3, .int .i64 c.f4, .int .i64 c.f5, .int .i64 c.f6, .int .i64 c.f7, .int .i64 c.f8, .int .i64 c.f9, .int .i64 c.f10, .int .u64 c.f11] TCf)).alloc (.cells #[.int .i64 0, .int .i64 0, .int .i64 0, .int .i64 0, .int .i64 0, .int .u64 0, .int .u64 0, .string ⟨#[]⟩] TSt)).heap[w.heap.size]? = some (.cells #[.slice c.A c.n c.cap, .int .i64 c.f1, .int .i64 c.f2, .int .i64 c.f3, .int .i64 c.f4, .int .i64 c.f5, .int .i64 c.f6, .int .i64 c.f7, .int .i64 c.f8, .int .i64 c.f9, .int .i64 c.f10, .int .u64 c.f11] TCf (0, 0)) := blk_alloc (heap_alloc_new w _)
  have r0 : ((w.alloc (.cells #[.slice c.A c.n c.cap, .int .i64 c.f1, .int .i64 c.f2, .int .i64 c.f3, .int .i64 c.f4, .int .i64 c.f5, .int .i64 c.f6, .int .i64 c.f7, .int .i64 c.f8, .int .i64 c.f9, .int .i64 c.f10, .int .u64 c.f11] TCf)).alloc (.cells #[.int .i64 0, .int .i64 0, .int .i64 0, .int .i64 0, .int .i64 0, .int .u64 0, .int .u64 0, .string ⟨#[]⟩] TSt)).heap[w.heap.size + 1]? = some (.cells #[.int .i64 0, .int .i64 0, .int .i64 0, .int .i64 0, .int .i64 0, .int .u64 0, .int .u64 0, .string ⟨#[]⟩] TSt (0, 0)) := heap_at _ _ _ (by simp)
  have o0 : On g w ((w.alloc (.cells #[.slice c.A c.n c.cap, .int .i64 c.f1, .int .i64 c.f2, .int .i64 c.f3, .int .i64 c.f4, .int .i64 c.f5, .int .i64 c.f6, .int .i64 c.f7, .int .i64 c.f8, .int .i64 c.f9, .int .i64 c.f10, .int .u64 c.f11] TCf)).alloc (.cells #[.int .i64 0, .int .i64 0, .int .i64 0, .int .i64 0, .int .i64 0, .int .u64 0, .int .u64 0, .string ⟨#[]⟩] TSt)) := ((On.refl _ _).alloc _).alloc _
  obtain ⟨w0, hw0⟩ : ∃ X, X = (w.alloc (.cells #[.slice c.A c.n c.cap, .int .i64 c.f1, .int .i64 c.f2, .int .i64 c.f3, .int .i64 c.f4, .int .i64 c.f5, .int .i64 c.f6, .int .i64 c.f7, .int .i64 c.f8, .int .i64 c.f9, .int .i64 c.f10, .int .u64 c.f11] TCf)).alloc (.cells #[.int .i64 0, .int .i64 0, .int .i64 0, .int .i64 0, .int .i64 0, .int .u64 0, .int .u64 0, .string ⟨#[]⟩] TSt) := ⟨_, rfl⟩
  rw [← hw0] at d0 cf0 r0 o0
  have hS := blk_lt r0
  obtain ⟨Z, hZ⟩ : ∃ Z : Array Value, Z = #[.int .i64 0, .int .i64 0, .int .i64 0, .int .i64 0, .int .i64 0, .int .u64 0, .int .u64 0, .string ⟨#[]⟩] := ⟨_, rfl⟩
  have hzv : (zeroValue TSt).run Try.prog w0 = .ok (.agg Z) w0 := by rw [hZ]; kernel_rfl
  have hzs : Z.size = 8 := by rw [hZ]; rfl
  have hst := run_storeCells_new (P := Try.prog) w0 TSt Z Z (by rw [hZ]; kernel_rfl) rfl (by rw [hZ]; simp [Value.oneCell'])
  obtain ⟨S, hSd⟩ : ∃ X, X = w0.heap.size := ⟨_, rfl⟩
  have h2 : SBR w (w0.alloc (.cells Z TSt)) g S st c #[.int .i64 0, .int .i64 0, .int .i64 0, .int .i64 0, .int .i64 0, .int .u64 0, .int .u64 0, .string ⟨#[]⟩] := ⟨blk_alloc d0, blk_alloc cf0, blk_alloc r0, by rw [hSd, ← hZ]; exact heap_alloc_new w0 _, o0.alloc _, hlt, by omega⟩
  have H2' := Lib.hid h2
  have HSd := Lib.hid hSd
  clear d0 cf0 r0 o0 hS hlt h h2 hSd hmm hnn ha h1 h4 hZ
  go_enter Try.func18, Try.ntmps18
  go_upto_region 1 with fail
  rw [← hw0]
  clear hw0
  go_upto_region 2 with fail
  obtain ⟨w2, hw2⟩ : ∃ X, X = w0.alloc (.cells Z TSt) := ⟨_, rfl⟩
  have H2 := Lib.hid (show SBR w w2 g S st c #[.int .i64 0, .int .i64 0, .int .i64 0, .int .i64 0, .int .i64 0, .int .u64 0, .int .u64 0, .string ⟨#[]⟩] by rw [hw2]; exact H2'.out)
  rw [← hw2, ← HSd.out]
  clear hw2 H2' hst hzv hzs HSd
  go_wp2_with fail
  refine (rbelow_on H2.out.d (by decide)).mono ?_
  rintro _ w3 ⟨rfl, d, o⟩
  have H3 := Lib.hid (H2.out.call d o)
  clear d o H2
  have hF : stepF st (c.n : Int) c.f1 = stepF st (c.n : Int) c.f1 := rfl
  conv at hF => rhs; unfold stepF
  obtain ⟨b, hb⟩ : ∃ b, b = belZ st 40 := ⟨_, rfl⟩
  rw [← hb] at hF ⊢ h27
  have HF := Lib.hid hF
  clear hb hF
  obtain ⟨s1, hs1⟩ : ∃ s, s = nxZ st 40 := ⟨_, rfl⟩
  rw [← hs1] at HF H3
  clear hs1
  have c0 := cell_of_row w3 S 0 _ _ (0, 0) H3.out.box
  have f0 := fr_of H3.out.box 0
  have H4 : Hid (SBR w (w3.setCell ⟨S, 0, none⟩ (.int .i64 1)) g S (s1) c #[.int .i64 1, .int .i64 0, .int .i64 0, .int .i64 0, .int .i64 0, .int .u64 0, .int .u64 0, .string ⟨#[]⟩]) := Lib.hid (H3.out.set 0 (.int .i64 1))
  go_wp2_with fail
  refine (rbelow_on H4.out.d (by decide)).mono ?_
  rintro _ w5 ⟨rfl, d, o⟩
  have h := H4.out.call d o
  clear d o
  have c2 := cell_of_row w5 S 2 _ _ (0, 0) h.box
  have f2 := fr_of h.box 2
  have H6 : Hid (SBR w (w5.setCell ⟨S, 2, none⟩ (.int .i64 (belZ s1 16))) g S (nxZ s1 16) c #[.int .i64 1, .int .i64 0, .int .i64 (belZ s1 16), .int .i64 0, .int .i64 0, .int .u64 0, .int .u64 0, .string ⟨#[]⟩]) := Lib.hid (h.set 2 (.int .i64 (belZ s1 16)))
  clear h H4 H3 c0 f0
  go_upto_region 33 with fail
  obtain ⟨w7, hw7⟩ : ∃ X, X = (w5.setCell ⟨S, 2, none⟩ (.int .i64 (belZ s1 16))) := ⟨_, rfl⟩
  rw [← hw7] at H6 ⊢
  clear hw7
  refine wp_region_lit ?_
  refine wpList_load_row rfl TSt _ rfl S rfl TSt _ (0, 0) _ H6.out.box Try.underlying44 rfl (by kernel_rfl) ?_
  refine wpList_store_rowTo rfl TSt _ _ rfl rfl (w.heap.size + 1) _ rfl rfl TSt _ H6.out.res (by kernel_rfl) rfl (by simp [Value.oneCell']) ?_
  refine wpList_nil ?_
  have HR' := setRow_heap w7 (w.heap.size + 1) _ #[.int .i64 1, .int .i64 0, .int .i64 (belZ s1 16), .int .i64 0, .int .i64 0, .int .u64 0, .int .u64 0, .string ⟨#[]⟩] TSt (0, 0) H6.out.res
  have HO9 := H6.out.on.setRow (show w.heap.size ≤ w.heap.size + 1 by omega) #[.int .i64 1, .int .i64 0, .int .i64 (belZ s1 16), .int .i64 0, .int .i64 0, .int .u64 0, .int .u64 0, .string ⟨#[]⟩]
  have HD9 := (setRow_other w7 (w.heap.size + 1) g #[.int .i64 1, .int .i64 0, .int .i64 (belZ s1 16), .int .i64 0, .int .i64 0, .int .u64 0, .int .u64 0, .string ⟨#[]⟩] (by have := H6.out.lt; omega)).trans H6.out.d
  obtain ⟨w9, hw9⟩ : ∃ X, X = w7.setRow (w.heap.size + 1) #[.int .i64 1, .int .i64 0, .int .i64 (belZ s1 16), .int .i64 0, .int .i64 0, .int .u64 0, .int .u64 0, .string ⟨#[]⟩] := ⟨_, rfl⟩
  rw [← hw9] at HR' HO9 HD9 ⊢
  clear hw9
  go_wp2_with fail
  have hF := HF.out
  rw [if_pos (show b ≤ 27 by omega)] at hF
  rw [hF]
  dsimp only
  exact bodyPost_ret (results_cell_row Try.results18 _ _ (w.heap.size + 1) TSt _ (0, 0) _ rfl HR' Try.underlying44 rfl (by kernel_rfl)) rfl ⟨rfl, HD9, HO9⟩
set_option maxRecDepth 20000 in
set_option maxHeartbeats 8000000 in
theorem rstep_1 {w : World} {g : Nat} {st : Int} (c : Cfg) (h1 : 1 ≤ c.n) (h4 : c.n ≤ 4) (ha : c.f1 ≤ 9223372036854775807) (h : D TR w g st) (h27 : ¬ belZ st 40 ≤ 27) (h32 : belZ st 40 ≤ 32) : Calls Try.prog 18 #[.pointer (some ⟨g, 0, none⟩), .agg c.cells] w fun e w' => e = .returned (.agg (stepF st (c.n : Int) c.f1).1.cells) ∧ D TR w' g (stepF st (c.n : Int) c.f1).2 ∧ On g w w' := by
  have hlt := blk_lt h
  have hmm : 2 * (c.n : Int) ≤ 9223372036854775807 := by omega
  have hnn : (c.n : Int) ≤ 9223372036854775807 := by omega
  have hn4 : (c.n : Int) ≤ 4 := by omega
  have hn0 : (0 : Int) ≤ (c.n : Int) := by omega
  have HN := Lib.hid (And.intro hmm (And.intro hnn ha))
  unfold Cfg.cells
  have d0 : D TR ((w.alloc (.cells #[.slice c.A c.n c.cap, .int .i64 c.f1, .int .i64 c.f2, .int .i64 c.f3, .int .i64 c.f4, .int .i64 c.f5, .int .i64 c.f6, .int .i64 c.f7, .int .i64 c.f8, .int .i64 c.f9, .int .i64 c.f10, .int .u64 c.f11] TCf)).alloc (.cells #[.int .i64 0, .int .i64 0, .int .i64 0, .int .i64 0, .int .i64 0, .int .u64 0, .int .u64 0, .string ⟨#[]⟩] TSt)) g st := blk_alloc (blk_alloc h)
  have cf0 : ((w.alloc (.cells #[.slice c.A c.n c.cap, .int .i64 c.f1, .int .i64 c.f2, .int .i64 c.f3, .int .i64 c.f4, .int .i64 c.f5, .int .i64 c.f6, .int .i64 c.f7, .int .i64 c.f8, .int .i64 c.f9, .int .i64 c.f10, .int .u64 c.f11] TCf)).alloc (.cells #[.int .i64 0, .int .i64 0, .int .i64 0, .int .i64 0, .int .i64 0, .int .u64 0, .int .u64 0, .string ⟨#[]⟩] TSt)).heap[w.heap.size]? = some (.cells #[.slice c.A c.n c.cap, .int .i64 c.f1, .int .i64 c.f2, .int .i64 c.f3, .int .i64 c.f4, .int .i64 c.f5, .int .i64 c.f6, .int .i64 c.f7, .int .i64 c.f8, .int .i64 c.f9, .int .i64 c.f10, .int .u64 c.f11] TCf (0, 0)) := blk_alloc (heap_alloc_new w _)
  have r0 : ((w.alloc (.cells #[.slice c.A c.n c.cap, .int .i64 c.f1, .int .i64 c.f2, .int .i64 c.f3, .int .i64 c.f4, .int .i64 c.f5, .int .i64 c.f6, .int .i64 c.f7, .int .i64 c.f8, .int .i64 c.f9, .int .i64 c.f10, .int .u64 c.f11] TCf)).alloc (.cells #[.int .i64 0, .int .i64 0, .int .i64 0, .int .i64 0, .int .i64 0, .int .u64 0, .int .u64 0, .string ⟨#[]⟩] TSt)).heap[w.heap.size + 1]? = some (.cells #[.int .i64 0, .int .i64 0, .int .i64 0, .int .i64 0, .int .i64 0, .int .u64 0, .int .u64 0, .string ⟨#[]⟩] TSt (0, 0)) := heap_at _ _ _ (by simp)
  have o0 : On g w ((w.alloc (.cells #[.slice c.A c.n c.cap, .int .i64 c.f1, .int .i64 c.f2, .int .i64 c.f3, .int .i64 c.f4, .int .i64 c.f5, .int .i64 c.f6, .int .i64 c.f7, .int .i64 c.f8, .int .i64 c.f9, .int .i64 c.f10, .int .u64 c.f11] TCf)).alloc (.cells #[.int .i64 0, .int .i64 0, .int .i64 0, .int .i64 0, .int .i64 0, .int .u64 0, .int .u64 0, .string ⟨#[]⟩] TSt)) := ((On.refl _ _).alloc _).alloc _
  obtain ⟨w0, hw0⟩ : ∃ X, X = (w.alloc (.cells #[.slice c.A c.n c.cap, .int .i64 c.f1, .int .i64 c.f2, .int .i64 c.f3, .int .i64 c.f4, .int .i64 c.f5, .int .i64 c.f6, .int .i64 c.f7, .int .i64 c.f8, .int .i64 c.f9, .int .i64 c.f10, .int .u64 c.f11] TCf)).alloc (.cells #[.int .i64 0, .int .i64 0, .int .i64 0, .int .i64 0, .int .i64 0, .int .u64 0, .int .u64 0, .string ⟨#[]⟩] TSt) := ⟨_, rfl⟩
  rw [← hw0] at d0 cf0 r0 o0
  have hS := blk_lt r0
  obtain ⟨Z, hZ⟩ : ∃ Z : Array Value, Z = #[.int .i64 0, .int .i64 0, .int .i64 0, .int .i64 0, .int .i64 0, .int .u64 0, .int .u64 0, .string ⟨#[]⟩] := ⟨_, rfl⟩
  have hzv : (zeroValue TSt).run Try.prog w0 = .ok (.agg Z) w0 := by rw [hZ]; kernel_rfl
  have hzs : Z.size = 8 := by rw [hZ]; rfl
  have hst := run_storeCells_new (P := Try.prog) w0 TSt Z Z (by rw [hZ]; kernel_rfl) rfl (by rw [hZ]; simp [Value.oneCell'])
  obtain ⟨S, hSd⟩ : ∃ X, X = w0.heap.size := ⟨_, rfl⟩
  have h2 : SBR w (w0.alloc (.cells Z TSt)) g S st c #[.int .i64 0, .int .i64 0, .int .i64 0, .int .i64 0, .int .i64 0, .int .u64 0, .int .u64 0, .string ⟨#[]⟩] := ⟨blk_alloc d0, blk_alloc cf0, blk_alloc r0, by rw [hSd, ← hZ]; exact heap_alloc_new w0 _, o0.alloc _, hlt, by omega⟩
  have H2' := Lib.hid h2
  have HSd := Lib.hid hSd
  clear d0 cf0 r0 o0 hS hlt h h2 hSd hmm hnn ha h1 h4 hZ
  go_enter Try.func18, Try.ntmps18
  go_upto_region 1 with fail
  rw [← hw0]
  clear hw0
  go_upto_region 2 with fail
  obtain ⟨w2, hw2⟩ : ∃ X, X = w0.alloc (.cells Z TSt) := ⟨_, rfl⟩
  have H2 := Lib.hid (show SBR w w2 g S st c #[.int .i64 0, .int .i64 0, .int .i64 0, .int .i64 0, .int .i64 0, .int .u64 0, .int .u64 0, .string ⟨#[]⟩] by rw [hw2]; exact H2'.out)
  rw [← hw2, ← HSd.out]
  clear hw2 H2' hst hzv hzs HSd
  go_wp2_with fail
  refine (rbelow_on H2.out.d (by decide)).mono ?_
  rintro _ w3 ⟨rfl, d, o⟩
  have H3 := Lib.hid (H2.out.call d o)
  clear d o H2
  have hF : stepF st (c.n : Int) c.f1 = stepF st (c.n : Int) c.f1 := rfl
  conv at hF => rhs; unfold stepF
  obtain ⟨b, hb⟩ : ∃ b, b = belZ st 40 := ⟨_, rfl⟩
  rw [← hb] at hF ⊢ h27 h32
  have HF := Lib.hid hF
  clear hb hF
  obtain ⟨s1, hs1⟩ : ∃ s, s = nxZ st 40 := ⟨_, rfl⟩
  rw [← hs1] at HF H3
  clear hs1
  have c0 := cell_of_row w3 S 0 _ _ (0, 0) H3.out.box
  have f0 := fr_of H3.out.box 0
  have H4 : Hid (SBR w (w3.setCell ⟨S, 0, none⟩ (.int .i64 2)) g S (s1) c #[.int .i64 2, .int .i64 0, .int .i64 0, .int .i64 0, .int .i64 0, .int .u64 0, .int .u64 0, .string ⟨#[]⟩]) := Lib.hid (H3.out.set 0 (.int .i64 2))
  go_wp2_with fail
  refine (rbelow_on H4.out.d (by decide)).mono ?_
  rintro _ w5 ⟨rfl, d, o⟩
  have h := H4.out.call d o
  clear d o
  have c1 := cell_of_row w5 S 1 _ _ (0, 0) h.box
  have f1 := fr_of h.box 1
  have H6 : Hid (SBR w (w5.setCell ⟨S, 1, none⟩ (.int .i64 (belZ s1 2))) g S (nxZ s1 2) c #[.int .i64 2, .int .i64 (belZ s1 2), .int .i64 0, .int .i64 0, .int .i64 0, .int .u64 0, .int .u64 0, .string ⟨#[]⟩]) := Lib.hid (h.set 1 (.int .i64 (belZ s1 2)))
  clear h H4 H3 c0 f0
  go_upto_region 33 with fail
  obtain ⟨w7, hw7⟩ : ∃ X, X = (w5.setCell ⟨S, 1, none⟩ (.int .i64 (belZ s1 2))) := ⟨_, rfl⟩
  rw [← hw7] at H6 ⊢
  clear hw7
  refine wp_region_lit ?_
  refine wpList_load_row rfl TSt _ rfl S rfl TSt _ (0, 0) _ H6.out.box Try.underlying44 rfl (by kernel_rfl) ?_
  refine wpList_store_rowTo rfl TSt _ _ rfl rfl (w.heap.size + 1) _ rfl rfl TSt _ H6.out.res (by kernel_rfl) rfl (by simp [Value.oneCell']) ?_
  refine wpList_nil ?_
  have HR' := setRow_heap w7 (w.heap.size + 1) _ #[.int .i64 2, .int .i64 (belZ s1 2), .int .i64 0, .int .i64 0, .int .i64 0, .int .u64 0, .int .u64 0, .string ⟨#[]⟩] TSt (0, 0) H6.out.res
  have HO9 := H6.out.on.setRow (show w.heap.size ≤ w.heap.size + 1 by omega) #[.int .i64 2, .int .i64 (belZ s1 2), .int .i64 0, .int .i64 0, .int .i64 0, .int .u64 0, .int .u64 0, .string ⟨#[]⟩]
  have HD9 := (setRow_other w7 (w.heap.size + 1) g #[.int .i64 2, .int .i64 (belZ s1 2), .int .i64 0, .int .i64 0, .int .i64 0, .int .u64 0, .int .u64 0, .string ⟨#[]⟩] (by have := H6.out.lt; omega)).trans H6.out.d
  obtain ⟨w9, hw9⟩ : ∃ X, X = w7.setRow (w.heap.size + 1) #[.int .i64 2, .int .i64 (belZ s1 2), .int .i64 0, .int .i64 0, .int .i64 0, .int .u64 0, .int .u64 0, .string ⟨#[]⟩] := ⟨_, rfl⟩
  rw [← hw9] at HR' HO9 HD9 ⊢
  clear hw9
  go_wp2_with fail
  have hF := HF.out
  rw [if_neg (show ¬ b ≤ 27 by omega), if_pos (show b ≤ 32 by omega)] at hF
  rw [hF]
  dsimp only
  exact bodyPost_ret (results_cell_row Try.results18 _ _ (w.heap.size + 1) TSt _ (0, 0) _ rfl HR' Try.underlying44 rfl (by kernel_rfl)) rfl ⟨rfl, HD9, HO9⟩
set_option maxRecDepth 20000 in
set_option maxHeartbeats 8000000 in
theorem rstep_3 {w : World} {g : Nat} {st : Int} (c : Cfg) (h1 : 1 ≤ c.n) (h4 : c.n ≤ 4) (ha : c.f1 ≤ 9223372036854775807) (h : D TR w g st) (h27 : ¬ belZ st 40 ≤ 27) (h32 : ¬ belZ st 40 ≤ 32) (h35 : ¬ belZ st 40 ≤ 35) (h36 : belZ st 40 = 36) : Calls Try.prog 18 #[.pointer (some ⟨g, 0, none⟩), .agg c.cells] w fun e w' => e = .returned (.agg (stepF st (c.n : Int) c.f1).1.cells) ∧ D TR w' g (stepF st (c.n : Int) c.f1).2 ∧ On g w w' := by
  have hlt := blk_lt h
  have hmm : 2 * (c.n : Int) ≤ 9223372036854775807 := by omega
  have hnn : (c.n : Int) ≤ 9223372036854775807 := by omega
  have hn4 : (c.n : Int) ≤ 4 := by omega
  have hn0 : (0 : Int) ≤ (c.n : Int) := by omega
  have HN := Lib.hid (And.intro hmm (And.intro hnn ha))
  unfold Cfg.cells
  have d0 : D TR ((w.alloc (.cells #[.slice c.A c.n c.cap, .int .i64 c.f1, .int .i64 c.f2, .int .i64 c.f3, .int .i64 c.f4, .int .i64 c.f5, .int .i64 c.f6, .int .i64 c.f7, .int .i64 c.f8, .int .i64 c.f9, .int .i64 c.f10, .int .u64 c.f11] TCf)).alloc (.cells #[.int .i64 0, .int .i64 0, .int .i64 0, .int .i64 0, .int .i64 0, .int .u64 0, .int .u64 0, .string ⟨#[]⟩] TSt)) g st := blk_alloc (blk_alloc h)
  have cf0 : ((w.alloc (.cells #[.slice c.A c.n c.cap, .int .i64 c.f1, .int .i64 c.f2, .int .i64 c.f3, .int .i64 c.f4, .int .i64 c.f5, .int .i64 c.f6, .int .i64 c.f7, .int .i64 c.f8, .int .i64 c.f9, .int .i64 c.f10, .int .u64 c.f11] TCf)).alloc (.cells #[.int .i64 0, .int .i64 0, .int .i64 0, .int .i64 0, .int .i64 0, .int .u64 0, .int .u64 0, .string ⟨#[]⟩] TSt)).heap[w.heap.size]? = some (.cells #[.slice c.A c.n c.cap, .int .i64 c.f1, .int .i64 c.f2, .int .i64 c.f3, .int .i64 c.f4, .int .i64 c.f5, .int .i64 c.f6, .int .i64 c.f7, .int .i64 c.f8, .int .i64 c.f9, .int .i64 c.f10, .int .u64 c.f11] TCf (0, 0)) := blk_alloc (heap_alloc_new w _)
  have r0 : ((w.alloc (.cells #[.slice c.A c.n c.cap, .int .i64 c.f1, .int .i64 c.f2, .int .i64 c.f3, .int .i64 c.f4, .int .i64 c.f5, .int .i64 c.f6, .int .i64 c.f7, .int .i64 c.f8, .int .i64 c.f9, .int .i64 c.f10, .int .u64 c.f11] TCf)).alloc (.cells #[.int .i64 0, .int .i64 0, .int .i64 0, .int .i64 0, .int .i64 0, .int .u64 0, .int .u64 0, .string ⟨#[]⟩] TSt)).heap[w.heap.size + 1]? = some (.cells #[.int .i64 0, .int .i64 0, .int .i64 0, .int .i64 0, .int .i64 0, .int .u64 0, .int .u64 0, .string ⟨#[]⟩] TSt (0, 0)) := heap_at _ _ _ (by simp)
  have o0 : On g w ((w.alloc (.cells #[.slice c.A c.n c.cap, .int .i64 c.f1, .int .i64 c.f2, .int .i64 c.f3, .int .i64 c.f4, .int .i64 c.f5, .int .i64 c.f6, .int .i64 c.f7, .int .i64 c.f8, .int .i64 c.f9, .int .i64 c.f10, .int .u64 c.f11] TCf)).alloc (.cells #[.int .i64 0, .int .i64 0, .int .i64 0, .int .i64 0, .int .i64 0, .int .u64 0, .int .u64 0, .string ⟨#[]⟩] TSt)) := ((On.refl _ _).alloc _).alloc _
  obtain ⟨w0, hw0⟩ : ∃ X, X = (w.alloc (.cells #[.slice c.A c.n c.cap, .int .i64 c.f1, .int .i64 c.f2, .int .i64 c.f3, .int .i64 c.f4, .int .i64 c.f5, .int .i64 c.f6, .int .i64 c.f7, .int .i64 c.f8, .int .i64 c.f9, .int .i64 c.f10, .int .u64 c.f11] TCf)).alloc (.cells #[.int .i64 0, .int .i64 0, .int .i64 0, .int .i64 0, .int .i64 0, .int .u64 0, .int .u64 0, .string ⟨#[]⟩] TSt) := ⟨_, rfl⟩
  rw [← hw0] at d0 cf0 r0 o0
  have hS := blk_lt r0
  obtain ⟨Z, hZ⟩ : ∃ Z : Array Value, Z = #[.int .i64 0, .int .i64 0, .int .i64 0, .int .i64 0, .int .i64 0, .int .u64 0, .int .u64 0, .string ⟨#[]⟩] := ⟨_, rfl⟩
  have hzv : (zeroValue TSt).run Try.prog w0 = .ok (.agg Z) w0 := by rw [hZ]; kernel_rfl
  have hzs : Z.size = 8 := by rw [hZ]; rfl
  have hst := run_storeCells_new (P := Try.prog) w0 TSt Z Z (by rw [hZ]; kernel_rfl) rfl (by rw [hZ]; simp [Value.oneCell'])
  obtain ⟨S, hSd⟩ : ∃ X, X = w0.heap.size := ⟨_, rfl⟩
  have h2 : SBR w (w0.alloc (.cells Z TSt)) g S st c #[.int .i64 0, .int .i64 0, .int .i64 0, .int .i64 0, .int .i64 0, .int .u64 0, .int .u64 0, .string ⟨#[]⟩] := ⟨blk_alloc d0, blk_alloc cf0, blk_alloc r0, by rw [hSd, ← hZ]; exact heap_alloc_new w0 _, o0.alloc _, hlt, by omega⟩
  have H2' := Lib.hid h2
  have HSd := Lib.hid hSd
  clear d0 cf0 r0 o0 hS hlt h h2 hSd hmm hnn ha h1 h4 hZ
  go_enter Try.func18, Try.ntmps18
  go_upto_region 1 with fail
  rw [← hw0]
  clear hw0
  go_upto_region 2 with fail
  obtain ⟨w2, hw2⟩ : ∃ X, X = w0.alloc (.cells Z TSt) := ⟨_, rfl⟩
  have H2 := Lib.hid (show SBR w w2 g S st c #[.int .i64 0, .int .i64 0, .int .i64 0, .int .i64 0, .int .i64 0, .int .u64 0, .int .u64 0, .string ⟨#[]⟩] by rw [hw2]; exact H2'.out)
  rw [← hw2, ← HSd.out]
  clear hw2 H2' hst hzv hzs HSd
  go_wp2_with fail
  refine (rbelow_on H2.out.d (by decide)).mono ?_
  rintro _ w3 ⟨rfl, d, o⟩
  have H3 := Lib.hid (H2.out.call d o)
  clear d o H2
  have hF : stepF st (c.n : Int) c.f1 = stepF st (c.n : Int) c.f1 := rfl
  conv at hF => rhs; unfold stepF
  obtain ⟨b, hb⟩ : ∃ b, b = belZ st 40 := ⟨_, rfl⟩
  rw [← hb] at hF ⊢ h27 h32 h35 h36
  have HF := Lib.hid hF
  clear hb hF
  obtain ⟨s1, hs1⟩ : ∃ s, s = nxZ st 40 := ⟨_, rfl⟩
  rw [← hs1] at HF H3
  clear hs1
  have c0 := cell_of_row w3 S 0 _ _ (0, 0) H3.out.box
  have f0 := fr_of H3.out.box 0
  have H4 : Hid (SBR w (w3.setCell ⟨S, 0, none⟩ (.int .i64 5)) g S (s1) c #[.int .i64 5, .int .i64 0, .int .i64 0, .int .i64 0, .int .i64 0, .int .u64 0, .int .u64 0, .string ⟨#[]⟩]) := Lib.hid (H3.out.set 0 (.int .i64 5))
  have qc := cell_of_row _ w.heap.size 0 _ _ (0, 0) H4.out.cfg
  go_wp2_with fail
  refine (rbelow_on H4.out.d HN.out.1).mono ?_
  rintro _ w5 ⟨rfl, d, o⟩
  have h := H4.out.call d o
  clear d o
  have c2 := cell_of_row w5 S 2 _ _ (0, 0) h.box
  have f2 := fr_of h.box 2
  have H6 : Hid (SBR w (w5.setCell ⟨S, 2, none⟩ (.int .i64 (belZ s1 (2 * (c.n : Int))))) g S (nxZ s1 (2 * (c.n : Int))) c #[.int .i64 5, .int .i64 0, .int .i64 (belZ s1 (2 * (c.n : Int))), .int .i64 0, .int .i64 0, .int .u64 0, .int .u64 0, .string ⟨#[]⟩]) := Lib.hid (h.set 2 (.int .i64 (belZ s1 (2 * (c.n : Int)))))
  clear h H4 H3 c0 f0
  go_upto_region 33 with fail
  obtain ⟨w7, hw7⟩ : ∃ X, X = (w5.setCell ⟨S, 2, none⟩ (.int .i64 (belZ s1 (2 * (c.n : Int))))) := ⟨_, rfl⟩
  rw [← hw7] at H6 ⊢
  clear hw7
  refine wp_region_lit ?_
  refine wpList_load_row rfl TSt _ rfl S rfl TSt _ (0, 0) _ H6.out.box Try.underlying44 rfl (by kernel_rfl) ?_
  refine wpList_store_rowTo rfl TSt _ _ rfl rfl (w.heap.size + 1) _ rfl rfl TSt _ H6.out.res (by kernel_rfl) rfl (by simp [Value.oneCell']) ?_
  refine wpList_nil ?_
  have HR' := setRow_heap w7 (w.heap.size + 1) _ #[.int .i64 5, .int .i64 0, .int .i64 (belZ s1 (2 * (c.n : Int))), .int .i64 0, .int .i64 0, .int .u64 0, .int .u64 0, .string ⟨#[]⟩] TSt (0, 0) H6.out.res
  have HO9 := H6.out.on.setRow (show w.heap.size ≤ w.heap.size + 1 by omega) #[.int .i64 5, .int .i64 0, .int .i64 (belZ s1 (2 * (c.n : Int))), .int .i64 0, .int .i64 0, .int .u64 0, .int .u64 0, .string ⟨#[]⟩]
  have HD9 := (setRow_other w7 (w.heap.size + 1) g #[.int .i64 5, .int .i64 0, .int .i64 (belZ s1 (2 * (c.n : Int))), .int .i64 0, .int .i64 0, .int .u64 0, .int .u64 0, .string ⟨#[]⟩] (by have := H6.out.lt; omega)).trans H6.out.d
  obtain ⟨w9, hw9⟩ : ∃ X, X = w7.setRow (w.heap.size + 1) #[.int .i64 5, .int .i64 0, .int .i64 (belZ s1 (2 * (c.n : Int))), .int .i64 0, .int .i64 0, .int .u64 0, .int .u64 0, .string ⟨#[]⟩] := ⟨_, rfl⟩
  rw [← hw9] at HR' HO9 HD9 ⊢
  clear hw9
  go_wp2_with fail
  have hF := HF.out
  rw [if_neg (show ¬ b ≤ 27 by omega), if_neg (show ¬ b ≤ 32 by omega), if_neg (show ¬ b ≤ 35 by omega), if_pos (show b = 36 by omega)] at hF
  rw [hF]
  dsimp only
  exact bodyPost_ret (results_cell_row Try.results18 _ _ (w.heap.size + 1) TSt _ (0, 0) _ rfl HR' Try.underlying44 rfl (by kernel_rfl)) rfl ⟨rfl, HD9, HO9⟩
set_option maxRecDepth 20000 in
set_option maxHeartbeats 8000000 in
theorem rstep_4 {w : World} {g : Nat} {st : Int} (c : Cfg) (h1 : 1 ≤ c.n) (h4 : c.n ≤ 4) (ha : c.f1 ≤ 9223372036854775807) (h : D TR w g st) (h27 : ¬ belZ st 40 ≤ 27) (h32 : ¬ belZ st 40 ≤ 32) (h35 : ¬ belZ st 40 ≤ 35) (h36 : ¬ belZ st 40 = 36) (h37 : belZ st 40 = 37) : Calls Try.prog 18 #[.pointer (some ⟨g, 0, none⟩), .agg c.cells] w fun e w' => e = .returned (.agg (stepF st (c.n : Int) c.f1).1.cells) ∧ D TR w' g (stepF st (c.n : Int) c.f1).2 ∧ On g w w' := by
  have hlt := blk_lt h
  have hmm : 2 * (c.n : Int) ≤ 9223372036854775807 := by omega
  have hnn : (c.n : Int) ≤ 9223372036854775807 := by omega
  have hn4 : (c.n : Int) ≤ 4 := by omega
  have hn0 : (0 : Int) ≤ (c.n : Int) := by omega
  have HN := Lib.hid (And.intro hmm (And.intro hnn ha))
  unfold Cfg.cells
  have d0 : D TR ((w.alloc (.cells #[.slice c.A c.n c.cap, .int .i64 c.f1, .int .i64 c.f2, .int .i64 c.f3, .int .i64 c.f4, .int .i64 c.f5, .int .i64 c.f6, .int .i64 c.f7, .int .i64 c.f8, .int .i64 c.f9, .int .i64 c.f10, .int .u64 c.f11] TCf)).alloc (.cells #[.int .i64 0, .int .i64 0, .int .i64 0, .int .i64 0, .int .i64 0, .int .u64 0, .int .u64 0, .string ⟨#[]⟩] TSt)) g st := blk_alloc (blk_alloc h)
  have cf0 : ((w.alloc (.cells #[.slice c.A c.n c.cap, .int .i64 c.f1, .int .i64 c.f2, .int .i64 c.f3, .int .i64 c.f4, .int .i64 c.f5, .int .i64 c.f6, .int .i64 c.f7, .int .i64 c.f8, .int .i64 c.f9, .int .i64 c.f10, .int .u64 c.f11] TCf)).alloc (.cells #[.int .i64 0, .int .i64 0, .int .i64 0, .int .i64 0, .int .i64 0, .int .u64 0, .int .u64 0, .string ⟨#[]⟩] TSt)).heap[w.heap.size]? = some (.cells #[.slice c.A c.n c.cap, .int .i64 c.f1, .int .i64 c.f2, .int .i64 c.f3, .int .i64 c.f4, .int .i64 c.f5, .int .i64 c.f6, .int .i64 c.f7, .int .i64 c.f8, .int .i64 c.f9, .int .i64 c.f10, .int .u64 c.f11] TCf (0, 0)) := blk_alloc (heap_alloc_new w _)
  have r0 : ((w.alloc (.cells #[.slice c.A c.n c.cap, .int .i64 c.f1, .int .i64 c.f2, .int .i64 c.f3, .int .i64 c.f4, .int .i64 c.f5, .int .i64 c.f6, .int .i64 c.f7, .int .i64 c.f8, .int .i64 c.f9, .int .i64 c.f10, .int .u64 c.f11] TCf)).alloc (.cells #[.int .i64 0, .int .i64 0, .int .i64 0, .int .i64 0, .int .i64 0, .int .u64 0, .int .u64 0, .string ⟨#[]⟩] TSt)).heap[w.heap.size + 1]? = some (.cells #[.int .i64 0, .int .i64 0, .int .i64 0, .int .i64 0, .int .i64 0, .int .u64 0, .int .u64 0, .string ⟨#[]⟩] TSt (0, 0)) := heap_at _ _ _ (by simp)
  have o0 : On g w ((w.alloc (.cells #[.slice c.A c.n c.cap, .int .i64 c.f1, .int .i64 c.f2, .int .i64 c.f3, .int .i64 c.f4, .int .i64 c.f5, .int .i64 c.f6, .int .i64 c.f7, .int .i64 c.f8, .int .i64 c.f9, .int .i64 c.f10, .int .u64 c.f11] TCf)).alloc (.cells #[.int .i64 0, .int .i64 0, .int .i64 0, .int .i64 0, .int .i64 0, .int .u64 0, .int .u64 0, .string ⟨#[]⟩] TSt)) := ((On.refl _ _).alloc _).alloc _
  obtain ⟨w0, hw0⟩ : ∃ X, X = (w.alloc (.cells #[.slice c.A c.n c.cap, .int .i64 c.f1, .int .i64 c.f2, .int .i64 c.f3, .int .i64 c.f4, .int .i64 c.f5, .int .i64 c.f6, .int .i64 c.f7, .int .i64 c.f8, .int .i64 c.f9, .int .i64 c.f10, .int .u64 c.f11] TCf)).alloc (.cells #[.int .i64 0, .int .i64 0, .int .i64 0, .int .i64 0, .int .i64 0, .int .u64 0, .int .u64 0, .string ⟨#[]⟩] TSt) := ⟨_, rfl⟩
  rw [← hw0] at d0 cf0 r0 o0
  have hS := blk_lt r0
  obtain ⟨Z, hZ⟩ : ∃ Z : Array Value, Z = #[.int .i64 0, .int .i64 0, .int .i64 0, .int .i64 0, .int .i64 0, .int .u64 0, .int .u64 0, .string ⟨#[]⟩] := ⟨_, rfl⟩
  have hzv : (zeroValue TSt).run Try.prog w0 = .ok (.agg Z) w0 := by rw [hZ]; kernel_rfl
  have hzs : Z.size = 8 := by rw [hZ]; rfl
  have hst := run_storeCells_new (P := Try.prog) w0 TSt Z Z (by rw [hZ]; kernel_rfl) rfl (by rw [hZ]; simp [Value.oneCell'])
  obtain ⟨S, hSd⟩ : ∃ X, X = w0.heap.size := ⟨_, rfl⟩
  have h2 : SBR w (w0.alloc (.cells Z TSt)) g S st c #[.int .i64 0, .int .i64 0, .int .i64 0, .int .i64 0, .int .i64 0, .int .u64 0, .int .u64 0, .string ⟨#[]⟩] := ⟨blk_alloc d0, blk_alloc cf0, blk_alloc r0, by rw [hSd, ← hZ]; exact heap_alloc_new w0 _, o0.alloc _, hlt, by omega⟩
  have H2' := Lib.hid h2
  have HSd := Lib.hid hSd
  clear d0 cf0 r0 o0 hS hlt h h2 hSd hmm hnn ha h1 h4 hZ
  go_enter Try.func18, Try.ntmps18
  go_upto_region 1 with fail
  rw [← hw0]
  clear hw0
  go_upto_region 2 with fail
  obtain ⟨w2, hw2⟩ : ∃ X, X = w0.alloc (.cells Z TSt) := ⟨_, rfl⟩
  have H2 := Lib.hid (show SBR w w2 g S st c #[.int .i64 0, .int .i64 0, .int .i64 0, .int .i64 0, .int .i64 0, .int .u64 0, .int .u64 0, .string ⟨#[]⟩] by rw [hw2]; exact H2'.out)
  rw [← hw2, ← HSd.out]
  clear hw2 H2' hst hzv hzs HSd
  go_wp2_with fail
  refine (rbelow_on H2.out.d (by decide)).mono ?_
  rintro _ w3 ⟨rfl, d, o⟩
  have H3 := Lib.hid (H2.out.call d o)
  clear d o H2
  have hF : stepF st (c.n : Int) c.f1 = stepF st (c.n : Int) c.f1 := rfl
  conv at hF => rhs; unfold stepF
  obtain ⟨b, hb⟩ : ∃ b, b = belZ st 40 := ⟨_, rfl⟩
  rw [← hb] at hF ⊢ h27 h32 h35 h36 h37
  have HF := Lib.hid hF
  clear hb hF
  obtain ⟨s1, hs1⟩ : ∃ s, s = nxZ st 40 := ⟨_, rfl⟩
  rw [← hs1] at HF H3
  clear hs1
  have c0 := cell_of_row w3 S 0 _ _ (0, 0) H3.out.box
  have f0 := fr_of H3.out.box 0
  have H4 : Hid (SBR w (w3.setCell ⟨S, 0, none⟩ (.int .i64 6)) g S (s1) c #[.int .i64 6, .int .i64 0, .int .i64 0, .int .i64 0, .int .i64 0, .int .u64 0, .int .u64 0, .string ⟨#[]⟩]) := Lib.hid (H3.out.set 0 (.int .i64 6))
  go_wp2_with fail
  refine (rbelow_on H4.out.d (by decide)).mono ?_
  rintro _ w5 ⟨rfl, d, o⟩
  have h := H4.out.call d o
  clear d o
  have c1 := cell_of_row w5 S 1 _ _ (0, 0) h.box
  have f1 := fr_of h.box 1
  have H6 : Hid (SBR w (w5.setCell ⟨S, 1, none⟩ (.int .i64 (belZ s1 2))) g S (nxZ s1 2) c #[.int .i64 6, .int .i64 (belZ s1 2), .int .i64 0, .int .i64 0, .int .i64 0, .int .u64 0, .int .u64 0, .string ⟨#[]⟩]) := Lib.hid (h.set 1 (.int .i64 (belZ s1 2)))
  have qa := cell_of_row _ w.heap.size 1 _ _ (0, 0) H6.out.cfg
  clear h H4 H3 c0 f0
  go_wp2_with fail
  refine (rbelow_on H6.out.d HN.out.2.2).mono ?_
  rintro _ w8 ⟨rfl, d, o⟩
  have h := H6.out.call d o
  clear d o
  have c2 := cell_of_row w8 S 2 _ _ (0, 0) h.box
  have f2 := fr_of h.box 2
  have H8 : Hid (SBR w (w8.setCell ⟨S, 2, none⟩ (.int .i64 (wrap64 (1 + belZ (nxZ s1 2) c.f1)))) g S (nxZ (nxZ s1 2) c.f1) c #[.int .i64 6, .int .i64 (belZ s1 2), .int .i64 (wrap64 (1 + belZ (nxZ s1 2) c.f1)), .int .i64 0, .int .i64 0, .int .u64 0, .int .u64 0, .string ⟨#[]⟩]) := Lib.hid (h.set 2 (.int .i64 (wrap64 (1 + belZ (nxZ s1 2) c.f1))))
  clear h H6 qa c1 f1
  go_upto_region 33 with fail
  obtain ⟨w7, hw7⟩ : ∃ X, X = (w8.setCell ⟨S, 2, none⟩ (.int .i64 (wrap64 (1 + belZ (nxZ s1 2) c.f1)))) := ⟨_, rfl⟩
  rw [← hw7] at H8 ⊢
  clear hw7
  refine wp_region_lit ?_
  refine wpList_load_row rfl TSt _ rfl S rfl TSt _ (0, 0) _ H8.out.box Try.underlying44 rfl (by kernel_rfl) ?_
  refine wpList_store_rowTo rfl TSt _ _ rfl rfl (w.heap.size + 1) _ rfl rfl TSt _ H8.out.res (by kernel_rfl) rfl (by simp [Value.oneCell']) ?_
  refine wpList_nil ?_
  have HR' := setRow_heap w7 (w.heap.size + 1) _ #[.int .i64 6, .int .i64 (belZ s1 2), .int .i64 (wrap64 (1 + belZ (nxZ s1 2) c.f1)), .int .i64 0, .int .i64 0, .int .u64 0, .int .u64 0, .string ⟨#[]⟩] TSt (0, 0) H8.out.res
  have HO9 := H8.out.on.setRow (show w.heap.size ≤ w.heap.size + 1 by omega) #[.int .i64 6, .int .i64 (belZ s1 2), .int .i64 (wrap64 (1 + belZ (nxZ s1 2) c.f1)), .int .i64 0, .int .i64 0, .int .u64 0, .int .u64 0, .string ⟨#[]⟩]
  have HD9 := (setRow_other w7 (w.heap.size + 1) g #[.int .i64 6, .int .i64 (belZ s1 2), .int .i64 (wrap64 (1 + belZ (nxZ s1 2) c.f1)), .int .i64 0, .int .i64 0, .int .u64 0, .int .u64 0, .string ⟨#[]⟩] (by have := H8.out.lt; omega)).trans H8.out.d
  obtain ⟨w9, hw9⟩ : ∃ X, X = w7.setRow (w.heap.size + 1) #[.int .i64 6, .int .i64 (belZ s1 2), .int .i64 (wrap64 (1 + belZ (nxZ s1 2) c.f1)), .int .i64 0, .int .i64 0, .int .u64 0, .int .u64 0, .string ⟨#[]⟩] := ⟨_, rfl⟩
  rw [← hw9] at HR' HO9 HD9 ⊢
  clear hw9
  go_wp2_with fail
  have hF := HF.out
  rw [if_neg (show ¬ b ≤ 27 by omega), if_neg (show ¬ b ≤ 32 by omega), if_neg (show ¬ b ≤ 35 by omega), if_neg (show ¬ b = 36 by omega), if_pos (show b = 37 by omega)] at hF
  rw [hF]
  dsimp only
  exact bodyPost_ret (results_cell_row Try.results18 _ _ (w.heap.size + 1) TSt _ (0, 0) _ rfl HR' Try.underlying44 rfl (by kernel_rfl)) rfl ⟨rfl, HD9, HO9⟩
set_option maxRecDepth 20000 in
set_option maxHeartbeats 8000000 in
theorem rstep_5 {w : World} {g : Nat} {st : Int} (c : Cfg) (h1 : 1 ≤ c.n) (h4 : c.n ≤ 4) (ha : c.f1 ≤ 9223372036854775807) (h : D TR w g st) (h27 : ¬ belZ st 40 ≤ 27) (h32 : ¬ belZ st 40 ≤ 32) (h35 : ¬ belZ st 40 ≤ 35) (h36 : ¬ belZ st 40 = 36) (h37 : ¬ belZ st 40 = 37) (h38 : belZ st 40 = 38) : Calls Try.prog 18 #[.pointer (some ⟨g, 0, none⟩), .agg c.cells] w fun e w' => e = .returned (.agg (stepF st (c.n : Int) c.f1).1.cells) ∧ D TR w' g (stepF st (c.n : Int) c.f1).2 ∧ On g w w' := by
  have hlt := blk_lt h
  have hmm : 2 * (c.n : Int) ≤ 9223372036854775807 := by omega
  have hnn : (c.n : Int) ≤ 9223372036854775807 := by omega
  have hn4 : (c.n : Int) ≤ 4 := by omega
  have hn0 : (0 : Int) ≤ (c.n : Int) := by omega
  have HN := Lib.hid (And.intro hmm (And.intro hnn ha))
  unfold Cfg.cells
  have d0 : D TR ((w.alloc (.cells #[.slice c.A c.n c.cap, .int .i64 c.f1, .int .i64 c.f2, .int .i64 c.f3, .int .i64 c.f4, .int .i64 c.f5, .int .i64 c.f6, .int .i64 c.f7, .int .i64 c.f8, .int .i64 c.f9, .int .i64 c.f10, .int .u64 c.f11] TCf)).alloc (.cells #[.int .i64 0, .int .i64 0, .int .i64 0, .int .i64 0, .int .i64 0, .int .u64 0, .int .u64 0, .string ⟨#[]⟩] TSt)) g st := blk_alloc (blk_alloc h)
  have cf0 : ((w.alloc (.cells #[.slice c.A c.n c.cap, .int .i64 c.f1, .int .i64 c.f2, .int .i64 c.f3, .int .i64 c.f4, .int .i64 c.f5, .int .i64 c.f6, .int .i64 c.f7, .int .i64 c.f8, .int .i64 c.f9, .int .i64 c.f10, .int .u64 c.f11] TCf)).alloc (.cells #[.int .i64 0, .int .i64 0, .int .i64 0, .int .i64 0, .int .i64 0, .int .u64 0, .int .u64 0, .string ⟨#[]⟩] TSt)).heap[w.heap.size]? = some (.cells #[.slice c.A c.n c.cap, .int .i64 c.f1, .int .i64 c.f2, .int .i64 c.f3, .int .i64 c.f4, .int .i64 c.f5, .int .i64 c.f6, .int .i64 c.f7, .int .i64 c.f8, .int .i64 c.f9, .int .i64 c.f10, .int .u64 c.f11] TCf (0, 0)) := blk_alloc (heap_alloc_new w _)
  have r0 : ((w.alloc (.cells #[.slice c.A c.n c.cap, .int .i64 c.f1, .int .i64 c.f2, .int .i64 c.f3, .int .i64 c.f4, .int .i64 c.f5, .int .i64 c.f6, .int .i64 c.f7, .int .i64 c.f8, .int .i64 c.f9, .int .i64 c.f10, .int .u64 c.f11] TCf)).alloc (.cells #[.int .i64 0, .int .i64 0, .int .i64 0, .int .i64 0, .int .i64 0, .int .u64 0, .int .u64 0, .string ⟨#[]⟩] TSt)).heap[w.heap.size + 1]? = some (.cells #[.int .i64 0, .int .i64 0, .int .i64 0, .int .i64 0, .int .i64 0, .int .u64 0, .int .u64 0, .string ⟨#[]⟩] TSt (0, 0)) := heap_at _ _ _ (by simp)
  have o0 : On g w ((w.alloc (.cells #[.slice c.A c.n c.cap, .int .i64 c.f1, .int .i64 c.f2, .int .i64 c.f3, .int .i64 c.f4, .int .i64 c.f5, .int .i64 c.f6, .int .i64 c.f7, .int .i64 c.f8, .int .i64 c.f9, .int .i64 c.f10, .int .u64 c.f11] TCf)).alloc (.cells #[.int .i64 0, .int .i64 0, .int .i64 0, .int .i64 0, .int .i64 0, .int .u64 0, .int .u64 0, .string ⟨#[]⟩] TSt)) := ((On.refl _ _).alloc _).alloc _
  obtain ⟨w0, hw0⟩ : ∃ X, X = (w.alloc (.cells #[.slice c.A c.n c.cap, .int .i64 c.f1, .int .i64 c.f2, .int .i64 c.f3, .int .i64 c.f4, .int .i64 c.f5, .int .i64 c.f6, .int .i64 c.f7, .int .i64 c.f8, .int .i64 c.f9, .int .i64 c.f10, .int .u64 c.f11] TCf)).alloc (.cells #[.int .i64 0, .int .i64 0, .int .i64 0, .int .i64 0, .int .i64 0, .int .u64 0, .int .u64 0, .string ⟨#[]⟩] TSt) := ⟨_, rfl⟩
  rw [← hw0] at d0 cf0 r0 o0
  have hS := blk_lt r0
  obtain ⟨Z, hZ⟩ : ∃ Z : Array Value, Z = #[.int .i64 0, .int .i64 0, .int .i64 0, .int .i64 0, .int .i64 0, .int .u64 0, .int .u64 0, .string ⟨#[]⟩] := ⟨_, rfl⟩
  have hzv : (zeroValue TSt).run Try.prog w0 = .ok (.agg Z) w0 := by rw [hZ]; kernel_rfl
  have hzs : Z.size = 8 := by rw [hZ]; rfl
  have hst := run_storeCells_new (P := Try.prog) w0 TSt Z Z (by rw [hZ]; kernel_rfl) rfl (by rw [hZ]; simp [Value.oneCell'])
  obtain ⟨S, hSd⟩ : ∃ X, X = w0.heap.size := ⟨_, rfl⟩
  have h2 : SBR w (w0.alloc (.cells Z TSt)) g S st c #[.int .i64 0, .int .i64 0, .int .i64 0, .int .i64 0, .int .i64 0, .int .u64 0, .int .u64 0, .string ⟨#[]⟩] := ⟨blk_alloc d0, blk_alloc cf0, blk_alloc r0, by rw [hSd, ← hZ]; exact heap_alloc_new w0 _, o0.alloc _, hlt, by omega⟩
  have H2' := Lib.hid h2
  have HSd := Lib.hid hSd
  clear d0 cf0 r0 o0 hS hlt h h2 hSd hmm hnn ha h1 h4 hZ
  go_enter Try.func18, Try.ntmps18
  go_upto_region 1 with fail
  rw [← hw0]
  clear hw0
  go_upto_region 2 with fail
  obtain ⟨w2, hw2⟩ : ∃ X, X = w0.alloc (.cells Z TSt) := ⟨_, rfl⟩
  have H2 := Lib.hid (show SBR w w2 g S st c #[.int .i64 0, .int .i64 0, .int .i64 0, .int .i64 0, .int .i64 0, .int .u64 0, .int .u64 0, .string ⟨#[]⟩] by rw [hw2]; exact H2'.out)
  rw [← hw2, ← HSd.out]
  clear hw2 H2' hst hzv hzs HSd
  go_wp2_with fail
  refine (rbelow_on H2.out.d (by decide)).mono ?_
  rintro _ w3 ⟨rfl, d, o⟩
  have H3 := Lib.hid (H2.out.call d o)
  clear d o H2
  have hF : stepF st (c.n : Int) c.f1 = stepF st (c.n : Int) c.f1 := rfl
  conv at hF => rhs; unfold stepF
  obtain ⟨b, hb⟩ : ∃ b, b = belZ st 40 := ⟨_, rfl⟩
  rw [← hb] at hF ⊢ h27 h32 h35 h36 h37 h38
  have HF := Lib.hid hF
  clear hb hF
  obtain ⟨s1, hs1⟩ : ∃ s, s = nxZ st 40 := ⟨_, rfl⟩
  rw [← hs1] at HF H3
  clear hs1
  have c0 := cell_of_row w3 S 0 _ _ (0, 0) H3.out.box
  have f0 := fr_of H3.out.box 0
  have H4 : Hid (SBR w (w3.setCell ⟨S, 0, none⟩ (.int .i64 4)) g S (s1) c #[.int .i64 4, .int .i64 0, .int .i64 0, .int .i64 0, .int .i64 0, .int .u64 0, .int .u64 0, .string ⟨#[]⟩]) := Lib.hid (H3.out.set 0 (.int .i64 4))
  go_wp2_with fail
  refine (rbelow_on H4.out.d (by decide)).mono ?_
  rintro _ w5 ⟨rfl, d, o⟩
  have h := H4.out.call d o
  clear d o
  have c1 := cell_of_row w5 S 1 _ _ (0, 0) h.box
  have f1 := fr_of h.box 1
  have H6 : Hid (SBR w (w5.setCell ⟨S, 1, none⟩ (.int .i64 (belZ s1 2))) g S (nxZ s1 2) c #[.int .i64 4, .int .i64 (belZ s1 2), .int .i64 0, .int .i64 0, .int .i64 0, .int .u64 0, .int .u64 0, .string ⟨#[]⟩]) := Lib.hid (h.set 1 (.int .i64 (belZ s1 2)))
  clear h H4 H3 c0 f0
  go_upto_region 33 with fail
  obtain ⟨w7, hw7⟩ : ∃ X, X = (w5.setCell ⟨S, 1, none⟩ (.int .i64 (belZ s1 2))) := ⟨_, rfl⟩
  rw [← hw7] at H6 ⊢
  clear hw7
  refine wp_region_lit ?_
  refine wpList_load_row rfl TSt _ rfl S rfl TSt _ (0, 0) _ H6.out.box Try.underlying44 rfl (by kernel_rfl) ?_
  refine wpList_store_rowTo rfl TSt _ _ rfl rfl (w.heap.size + 1) _ rfl rfl TSt _ H6.out.res (by kernel_rfl) rfl (by simp [Value.oneCell']) ?_
  refine wpList_nil ?_
  have HR' := setRow_heap w7 (w.heap.size + 1) _ #[.int .i64 4, .int .i64 (belZ s1 2), .int .i64 0, .int .i64 0, .int .i64 0, .int .u64 0, .int .u64 0, .string ⟨#[]⟩] TSt (0, 0) H6.out.res
  have HO9 := H6.out.on.setRow (show w.heap.size ≤ w.heap.size + 1 by omega) #[.int .i64 4, .int .i64 (belZ s1 2), .int .i64 0, .int .i64 0, .int .i64 0, .int .u64 0, .int .u64 0, .string ⟨#[]⟩]
  have HD9 := (setRow_other w7 (w.heap.size + 1) g #[.int .i64 4, .int .i64 (belZ s1 2), .int .i64 0, .int .i64 0, .int .i64 0, .int .u64 0, .int .u64 0, .string ⟨#[]⟩] (by have := H6.out.lt; omega)).trans H6.out.d
  obtain ⟨w9, hw9⟩ : ∃ X, X = w7.setRow (w.heap.size + 1) #[.int .i64 4, .int .i64 (belZ s1 2), .int .i64 0, .int .i64 0, .int .i64 0, .int .u64 0, .int .u64 0, .string ⟨#[]⟩] := ⟨_, rfl⟩
  rw [← hw9] at HR' HO9 HD9 ⊢
  clear hw9
  go_wp2_with fail
  have hF := HF.out
  rw [if_neg (show ¬ b ≤ 27 by omega), if_neg (show ¬ b ≤ 32 by omega), if_neg (show ¬ b ≤ 35 by omega), if_neg (show ¬ b = 36 by omega), if_neg (show ¬ b = 37 by omega), if_pos (show b = 38 by omega)] at hF
  rw [hF]
  dsimp only
  exact bodyPost_ret (results_cell_row Try.results18 _ _ (w.heap.size + 1) TSt _ (0, 0) _ rfl HR' Try.underlying44 rfl (by kernel_rfl)) rfl ⟨rfl, HD9, HO9⟩
set_option maxRecDepth 20000 in
set_option maxHeartbeats 8000000 in
theorem rstep_6 {w : World} {g : Nat} {st : Int} (c : Cfg) (h1 : 1 ≤ c.n) (h4 : c.n ≤ 4) (ha : c.f1 ≤ 9223372036854775807) (h : D TR w g st) (h27 : ¬ belZ st 40 ≤ 27) (h32 : ¬ belZ st 40 ≤ 32) (h35 : ¬ belZ st 40 ≤ 35) (h36 : ¬ belZ st 40 = 36) (h37 : ¬ belZ st 40 = 37) (h38 : ¬ belZ st 40 = 38) : Calls Try.prog 18 #[.pointer (some ⟨g, 0, none⟩), .agg c.cells] w fun e w' => e = .returned (.agg (stepF st (c.n : Int) c.f1).1.cells) ∧ D TR w' g (stepF st (c.n : Int) c.f1).2 ∧ On g w w' := by
  have hlt := blk_lt h
  have hmm : 2 * (c.n : Int) ≤ 9223372036854775807 := by omega
  have hnn : (c.n : Int) ≤ 9223372036854775807 := by omega
  have hn4 : (c.n : Int) ≤ 4 := by omega
  have hn0 : (0 : Int) ≤ (c.n : Int) := by omega
  have HN := Lib.hid (And.intro hmm (And.intro hnn ha))
  unfold Cfg.cells
  have d0 : D TR ((w.alloc (.cells #[.slice c.A c.n c.cap, .int .i64 c.f1, .int .i64 c.f2, .int .i64 c.f3, .int .i64 c.f4, .int .i64 c.f5, .int .i64 c.f6, .int .i64 c.f7, .int .i64 c.f8, .int .i64 c.f9, .int .i64 c.f10, .int .u64 c.f11] TCf)).alloc (.cells #[.int .i64 0, .int .i64 0, .int .i64 0, .int .i64 0, .int .i64 0, .int .u64 0, .int .u64 0, .string ⟨#[]⟩] TSt)) g st := blk_alloc (blk_alloc h)
  have cf0 : ((w.alloc (.cells #[.slice c.A c.n c.cap, .int .i64 c.f1, .int .i64 c.f2, .int .i64 c.f3, .int .i64 c.f4, .int .i64 c.f5, .int .i64 c.f6, .int .i64 c.f7, .int .i64 c.f8, .int .i64 c.f9, .int .i64 c.f10, .int .u64 c.f11] TCf)).alloc (.cells #[.int .i64 0, .int .i64 0, .int .i64 0, .int .i64 0, .int .i64 0, .int .u64 0, .int .u64 0, .string ⟨#[]⟩] TSt)).heap[w.heap.size]? = some (.cells #[.slice c.A c.n c.cap, .int .i64 c.f1, .int .i64 c.f2, .int .i64 c.f3, .int .i64 c.f4, .int .i64 c.f5, .int .i64 c.f6, .int .i64 c.f7, .int .i64 c.f8, .int .i64 c.f9, .int .i64 c.f10, .int .u64 c.f11] TCf (0, 0)) := blk_alloc (heap_alloc_new w _)
  have r0 : ((w.alloc (.cells #[.slice c.A c.n c.cap, .int .i64 c.f1, .int .i64 c.f2, .int .i64 c.f3, .int .i64 c.f4, .int .i64 c.f5, .int .i64 c.f6, .int .i64 c.f7, .int .i64 c.f8, .int .i64 c.f9, .int .i64 c.f10, .int .u64 c.f11] TCf)).alloc (.cells #[.int .i64 0, .int .i64 0, .int .i64 0, .int .i64 0, .int .i64 0, .int .u64 0, .int .u64 0, .string ⟨#[]⟩] TSt)).heap[w.heap.size + 1]? = some (.cells #[.int .i64 0, .int .i64 0, .int .i64 0, .int .i64 0, .int .i64 0, .int .u64 0, .int .u64 0, .string ⟨#[]⟩] TSt (0, 0)) := heap_at _ _ _ (by simp)
  have o0 : On g w ((w.alloc (.cells #[.slice c.A c.n c.cap, .int .i64 c.f1, .int .i64 c.f2, .int .i64 c.f3, .int .i64 c.f4, .int .i64 c.f5, .int .i64 c.f6, .int .i64 c.f7, .int .i64 c.f8, .int .i64 c.f9, .int .i64 c.f10, .int .u64 c.f11] TCf)).alloc (.cells #[.int .i64 0, .int .i64 0, .int .i64 0, .int .i64 0, .int .i64 0, .int .u64 0, .int .u64 0, .string ⟨#[]⟩] TSt)) := ((On.refl _ _).alloc _).alloc _
  obtain ⟨w0, hw0⟩ : ∃ X, X = (w.alloc (.cells #[.slice c.A c.n c.cap, .int .i64 c.f1, .int .i64 c.f2, .int .i64 c.f3, .int .i64 c.f4, .int .i64 c.f5, .int .i64 c.f6, .int .i64 c.f7, .int .i64 c.f8, .int .i64 c.f9, .int .i64 c.f10, .int .u64 c.f11] TCf)).alloc (.cells #[.int .i64 0, .int .i64 0, .int .i64 0, .int .i64 0, .int .i64 0, .int .u64 0, .int .u64 0, .string ⟨#[]⟩] TSt) := ⟨_, rfl⟩
  rw [← hw0] at d0 cf0 r0 o0
  have hS := blk_lt r0
  obtain ⟨Z, hZ⟩ : ∃ Z : Array Value, Z = #[.int .i64 0, .int .i64 0, .int .i64 0, .int .i64 0, .int .i64 0, .int .u64 0, .int .u64 0, .string ⟨#[]⟩] := ⟨_, rfl⟩
  have hzv : (zeroValue TSt).run Try.prog w0 = .ok (.agg Z) w0 := by rw [hZ]; kernel_rfl
  have hzs : Z.size = 8 := by rw [hZ]; rfl
  have hst := run_storeCells_new (P := Try.prog) w0 TSt Z Z (by rw [hZ]; kernel_rfl) rfl (by rw [hZ]; simp [Value.oneCell'])
  obtain ⟨S, hSd⟩ : ∃ X, X = w0.heap.size := ⟨_, rfl⟩
  have h2 : SBR w (w0.alloc (.cells Z TSt)) g S st c #[.int .i64 0, .int .i64 0, .int .i64 0, .int .i64 0, .int .i64 0, .int .u64 0, .int .u64 0, .string ⟨#[]⟩] := ⟨blk_alloc d0, blk_alloc cf0, blk_alloc r0, by rw [hSd, ← hZ]; exact heap_alloc_new w0 _, o0.alloc _, hlt, by omega⟩
  have H2' := Lib.hid h2
  have HSd := Lib.hid hSd
  clear d0 cf0 r0 o0 hS hlt h h2 hSd hmm hnn ha h1 h4 hZ
  go_enter Try.func18, Try.ntmps18
  go_upto_region 1 with fail
  rw [← hw0]
  clear hw0
  go_upto_region 2 with fail
  obtain ⟨w2, hw2⟩ : ∃ X, X = w0.alloc (.cells Z TSt) := ⟨_, rfl⟩
  have H2 := Lib.hid (show SBR w w2 g S st c #[.int .i64 0, .int .i64 0, .int .i64 0, .int .i64 0, .int .i64 0, .int .u64 0, .int .u64 0, .string ⟨#[]⟩] by rw [hw2]; exact H2'.out)
  rw [← hw2, ← HSd.out]
  clear hw2 H2' hst hzv hzs HSd
  go_wp2_with fail
  refine (rbelow_on H2.out.d (by decide)).mono ?_
  rintro _ w3 ⟨rfl, d, o⟩
  have H3 := Lib.hid (H2.out.call d o)
  clear d o H2
  have hF : stepF st (c.n : Int) c.f1 = stepF st (c.n : Int) c.f1 := rfl
  conv at hF => rhs; unfold stepF
  obtain ⟨b, hb⟩ : ∃ b, b = belZ st 40 := ⟨_, rfl⟩
  rw [← hb] at hF ⊢ h27 h32 h35 h36 h37 h38
  have HF := Lib.hid hF
  clear hb hF
  obtain ⟨s1, hs1⟩ : ∃ s, s = nxZ st 40 := ⟨_, rfl⟩
  rw [← hs1] at HF H3
  clear hs1
  go_wp2_with fail
  refine (rbelow_on H3.out.d (by decide)).mono ?_
  rintro _ w5 ⟨rfl, d, o⟩
  have h := H3.out.call d o
  have H5 := Lib.hid h
  clear d o H3
  have c0 := cell_of_row w5 S 0 _ _ (0, 0) h.box
  have f0 := fr_of h.box 0
  by_cases hz : belZ s1 4 = 0
  · have H6 : Hid (SBR w (w5.setCell ⟨S, 0, none⟩ (.int .i64 7)) g S (nxZ s1 4) c #[.int .i64 7, .int .i64 0, .int .i64 0, .int .i64 0, .int .i64 0, .int .u64 0, .int .u64 0, .string ⟨#[]⟩]) := Lib.hid (h.set 0 (.int .i64 7))
    clear h H5
    go_upto_region 33 with fail
    obtain ⟨w7, hw7⟩ : ∃ X, X = (w5.setCell ⟨S, 0, none⟩ (.int .i64 7)) := ⟨_, rfl⟩
    rw [← hw7] at H6 ⊢
    clear hw7
    refine wp_region_lit ?_
    refine wpList_load_row rfl TSt _ rfl S rfl TSt _ (0, 0) _ H6.out.box Try.underlying44 rfl (by kernel_rfl) ?_
    refine wpList_store_rowTo rfl TSt _ _ rfl rfl (w.heap.size + 1) _ rfl rfl TSt _ H6.out.res (by kernel_rfl) rfl (by simp [Value.oneCell']) ?_
    refine wpList_nil ?_
    have HR' := setRow_heap w7 (w.heap.size + 1) _ #[.int .i64 7, .int .i64 0, .int .i64 0, .int .i64 0, .int .i64 0, .int .u64 0, .int .u64 0, .string ⟨#[]⟩] TSt (0, 0) H6.out.res
    have HO9 := H6.out.on.setRow (show w.heap.size ≤ w.heap.size + 1 by omega) #[.int .i64 7, .int .i64 0, .int .i64 0, .int .i64 0, .int .i64 0, .int .u64 0, .int .u64 0, .string ⟨#[]⟩]
    have HD9 := (setRow_other w7 (w.heap.size + 1) g #[.int .i64 7, .int .i64 0, .int .i64 0, .int .i64 0, .int .i64 0, .int .u64 0, .int .u64 0, .string ⟨#[]⟩] (by have := H6.out.lt; omega)).trans H6.out.d
    obtain ⟨w9, hw9⟩ : ∃ X, X = w7.setRow (w.heap.size + 1) #[.int .i64 7, .int .i64 0, .int .i64 0, .int .i64 0, .int .i64 0, .int .u64 0, .int .u64 0, .string ⟨#[]⟩] := ⟨_, rfl⟩
    rw [← hw9] at HR' HO9 HD9 ⊢
    clear hw9
    go_wp2_with fail
    have hF := HF.out
    rw [if_neg (show ¬ b ≤ 27 by omega), if_neg (show ¬ b ≤ 32 by omega), if_neg (show ¬ b ≤ 35 by omega), if_neg (show ¬ b = 36 by omega), if_neg (show ¬ b = 37 by omega), if_neg (show ¬ b = 38 by omega), if_pos hz] at hF
    rw [hF]
    dsimp only
    exact bodyPost_ret (results_cell_row Try.results18 _ _ (w.heap.size + 1) TSt _ (0, 0) _ rfl HR' Try.underlying44 rfl (by kernel_rfl)) rfl ⟨rfl, HD9, HO9⟩
  · have H6 : Hid (SBR w (w5.setCell ⟨S, 0, none⟩ (.int .i64 8)) g S (nxZ s1 4) c #[.int .i64 8, .int .i64 0, .int .i64 0, .int .i64 0, .int .i64 0, .int .u64 0, .int .u64 0, .string ⟨#[]⟩]) := Lib.hid (h.set 0 (.int .i64 8))
    clear h H5
    go_upto_region 33 with fail
    obtain ⟨w7, hw7⟩ : ∃ X, X = (w5.setCell ⟨S, 0, none⟩ (.int .i64 8)) := ⟨_, rfl⟩
    rw [← hw7] at H6 ⊢
    clear hw7
    refine wp_region_lit ?_
    refine wpList_load_row rfl TSt _ rfl S rfl TSt _ (0, 0) _ H6.out.box Try.underlying44 rfl (by kernel_rfl) ?_
    refine wpList_store_rowTo rfl TSt _ _ rfl rfl (w.heap.size + 1) _ rfl rfl TSt _ H6.out.res (by kernel_rfl) rfl (by simp [Value.oneCell']) ?_
    refine wpList_nil ?_
    have HR' := setRow_heap w7 (w.heap.size + 1) _ #[.int .i64 8, .int .i64 0, .int .i64 0, .int .i64 0, .int .i64 0, .int .u64 0, .int .u64 0, .string ⟨#[]⟩] TSt (0, 0) H6.out.res
    have HO9 := H6.out.on.setRow (show w.heap.size ≤ w.heap.size + 1 by omega) #[.int .i64 8, .int .i64 0, .int .i64 0, .int .i64 0, .int .i64 0, .int .u64 0, .int .u64 0, .string ⟨#[]⟩]
    have HD9 := (setRow_other w7 (w.heap.size + 1) g #[.int .i64 8, .int .i64 0, .int .i64 0, .int .i64 0, .int .i64 0, .int .u64 0, .int .u64 0, .string ⟨#[]⟩] (by have := H6.out.lt; omega)).trans H6.out.d
    obtain ⟨w9, hw9⟩ : ∃ X, X = w7.setRow (w.heap.size + 1) #[.int .i64 8, .int .i64 0, .int .i64 0, .int .i64 0, .int .i64 0, .int .u64 0, .int .u64 0, .string ⟨#[]⟩] := ⟨_, rfl⟩
    rw [← hw9] at HR' HO9 HD9 ⊢
    clear hw9
    go_wp2_with fail
    have hF := HF.out
    rw [if_neg (show ¬ b ≤ 27 by omega), if_neg (show ¬ b ≤ 32 by omega), if_neg (show ¬ b ≤ 35 by omega), if_neg (show ¬ b = 36 by omega), if_neg (show ¬ b = 37 by omega), if_neg (show ¬ b = 38 by omega), if_neg hz] at hF
    rw [hF]
    dsimp only
    exact bodyPost_ret (results_cell_row Try.results18 _ _ (w.heap.size + 1) TSt _ (0, 0) _ rfl HR' Try.underlying44 rfl (by kernel_rfl)) rfl ⟨rfl, HD9, HO9⟩
end Go.Proofs.Ytfojmjgnndlfnaa.DiceW
