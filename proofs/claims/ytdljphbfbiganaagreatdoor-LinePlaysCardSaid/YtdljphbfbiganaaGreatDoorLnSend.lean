/- line: an end as it is made sends a packet. -/
import Derived.Test.YtdljphbfbiganaaGreatDoorTk
import Derived.Test.YtdljphbfbiganaaGreatDoorLnBase
import Derived.Deep.WholeRow
namespace Go.Proofs.YtdljphbfbiganaaGreatDoor.Ln
open Go Go.RowKit Packet
set_option linter.unusedVariables false

abbrev px : P5 := ⟨0, 0, 0, 0, ⟨#[120]⟩⟩
abbrev px1 : P5 := ⟨0, 0, 1, 0, ⟨#[120]⟩⟩
theorem px_right : px.right := ⟨by decide, by decide, Or.inl rfl, by decide⟩
theorem px1_right : px1.right := ⟨by decide, by decide, Or.inl rfl, by decide⟩
theorem px1_ok : px1.ok := ⟨by decide, by decide, by decide, by decide, by decide⟩
theorem fits_x {w : World} {E M N : Nat} {n : Int} (h : LnIs w E M N n) : Calls Tryz.prog 19 #[.pointer (some ⟨E, 0, none⟩), .agg #[.int .i64 0, .int .i64 0, .int .u64 0, .int .u64 0, .string ⟨#[120]⟩], .int .i64 0] w fun e w' => e = .returned (.bool true) ∧ Below w.heap.size w w' := by
  have h1 : fitB px = true := fitB_yes px px_right rfl
  have := fits_any px h
  rw [h1] at this
  exact this
theorem late_x (w : World) : Calls Tryz.prog 20 #[.agg #[.int .i64 0, .int .i64 0, .int .u64 0, .int .u64 0, .string ⟨#[120]⟩], .int .u64 0] w fun e w' => e = .returned (.bool false) ∧ Below w.heap.size w w' := by
  go_enter Tryz.func20, Tryz.ntmps20
  go_wp2
  go_ret
  exact ⟨rfl, (Below.refl _ _).alloc (Nat.le_refl _) _⟩
theorem sum_x (w : World) (ht : Sha.Tab w) : ∃ C : Array Value, (C.size = 32 ∧ C.all (·.oneCell') = true) ∧ ∀ w, Sha.Tab w → Calls Tryz.prog 21 #[.agg #[.int .i64 0, .int .i64 0, .int .u64 1, .int .u64 0, .string ⟨#[120]⟩]] w fun e w' => e = .returned (.agg C) ∧ Below w.heap.size w w' :=
  ⟨_, ⟨rfl, Sha.u8_one _⟩, fun w ht => Sha.psum_yes px1 px1_right px1_ok w ht⟩
def entS (C : Array Value) : MapEntry := { key := .int .u64 1, val := .agg C, born := 0 }
/-- the world behind the first entry -/
def putW (W : World) (M : Nat) (C : Array Value) : World := { W with heap := W.heap.setIfInBounds M (.map #[entS C] 1) }
theorem put_one (M : Nat) (C : Array Value) (W : World) (h : W.heap[M]? = some (.map #[] 0)) :
    (Instr.mapUpdate TMp (.map (some M)) (.int .u64 1) (.agg C)).run Tryz.prog W = .ok () (putW W M C) := by
  have hck : (Instr.checkKey false 10000 31 (.int .u64 1)).run Tryz.prog W = .ok () W := MapKept.run_checkKey (d := .int .u64) Tryz.underlying31 (show MapKept.IsKey (.int .u64) (.int .u64 1) from rfl) false 9999
  have hfk : (Instr.findKey 31 (.int .u64 1) []).run Tryz.prog W = .ok none W := by
    unfold Instr.findKey
    simp only [Sem.run_bind, run_underlying Tryz.underlying31, Result.andThen_ok]
    rfl
  unfold Instr.mapUpdate
  simp only [Sem.run_bind, run_underlying Tryz.underlying49, Result.andThen_ok, MapKept.run_getObj_map h, hck, hfk, MapKept.run_setObj_map _ h]
  first
    | rfl
    | (simp [MapKept.run_setObj_map _ h, putW, entS]; done)
theorem putW_below {B M : Nat} {a W : World} (h : Below B a W) (hM : B ≤ M) (C : Array Value) : Below B a (putW W M C) :=
  ⟨h.os, h.tape, h.output, Nat.le_trans h.size (by simp [putW]), fun k hk => by
    show (W.heap.setIfInBounds M _)[k]? = _
    rw [Array.getElem?_setIfInBounds, if_neg (by omega)]; exact h.block k hk⟩
theorem putW_other {M k : Nat} {W : World} (hM : k ≠ M) (C : Array Value) : (putW W M C).heap[k]? = W.heap[k]? := by
  show (W.heap.setIfInBounds M _)[k]? = _
  rw [Array.getElem?_setIfInBounds, if_neg (fun e => hM e.symm)]
theorem putW_at {M : Nat} {W : World} (hM : M < W.heap.size) (C : Array Value) : (putW W M C).heap[M]? = some (.map #[entS C] 1) := by
  show (W.heap.setIfInBounds M _)[M]? = _
  rw [Array.getElem?_setIfInBounds]; simp [hM]
/-- behind the entry -/
def SZ (B : Nat) (w : World) (E M N : Nat) (P : Array Value) (W : World) : Prop := Below B w W ∧ W.heap[w.heap.size]? = some (.cells P TPk (0, 0)) ∧ W.heap[w.heap.size + 1]? = some (.cells #[.int .i64 0, .int .i64 0, .int .u64 0, .int .u64 0, .string ⟨#[]⟩] TPk (0, 0)) ∧ LnIs W E M N 1
theorem SZ.drew {B E M N : Nat} {w W : World} {P : Array Value} (h : SZ B w E M N P W) : SZ B w E M N P W.drew := ⟨h.1.drew, h.2.1, h.2.2.1, h.2.2.2.below (Below.refl _ _).drew⟩
theorem SZ.call {B E M N : Nat} {w W w1 : World} {P : Array Value} (h : SZ B w E M N P W) (hb : Below W.heap.size W w1) (hB : B ≤ W.heap.size) : SZ B w E M N P w1 :=
  ⟨h.1.trans (hb.mono hB), (hb.block _ (lt_of h.2.1)).trans h.2.1, (hb.block _ (lt_of h.2.2.1)).trans h.2.2.1, h.2.2.2.below hb⟩
theorem SZ.put {B E M N : Nat} {w W : World} {P : Array Value} (h : SZ B w E M N P W) (hBM : B ≤ M) (hM : M < w.heap.size) (C : Array Value) : SZ B w E M N P (putW W M C) :=
  ⟨putW_below h.1 hBM C, (putW_other (by omega) C).trans h.2.1, (putW_other (by omega) C).trans h.2.2.1, (putW_other (fun e => h.2.2.2.ne e.symm) C).trans h.2.2.2.box, by have := h.2.2.2.lm; simpa [putW] using this, h.2.2.2.ne⟩
/-- while a packet is sent: its box, the result's -/
def SX (w : World) (P : Array Value) (W : World) : Prop := Below w.heap.size w W ∧ W.heap[w.heap.size]? = some (.cells P TPk (0, 0)) ∧ W.heap[w.heap.size + 1]? = some (.cells #[.int .i64 0, .int .i64 0, .int .u64 0, .int .u64 0, .string ⟨#[]⟩] TPk (0, 0))
theorem SX.drew {w W : World} {P : Array Value} (h : SX w P W) : SX w P W.drew := ⟨h.1.drew, h.2⟩
theorem SX.call {w W w1 : World} {P : Array Value} (h : SX w P W) (hb : Below W.heap.size W w1) : SX w P w1 :=
  ⟨h.1.trans (hb.mono h.1.size), (hb.block _ (lt_of h.2.1)).trans h.2.1, (hb.block _ (lt_of h.2.2)).trans h.2.2⟩
theorem SX.new (w : World) : SX w #[.int .i64 0, .int .i64 0, .int .u64 0, .int .u64 0, .string ⟨#[120]⟩] ((w.alloc (.cells #[.int .i64 0, .int .i64 0, .int .u64 0, .int .u64 0, .string ⟨#[120]⟩] TPk)).alloc (.cells #[.int .i64 0, .int .i64 0, .int .u64 0, .int .u64 0, .string ⟨#[]⟩] TPk)) :=
  ⟨((Below.refl _ _).alloc (Nat.le_refl _) _).alloc (by simp) _, (Below.heap_alloc _ _ _ (by simp)).trans (heap_alloc_new w _), heap_at _ _ _ (by simp)⟩
theorem pk_cells {W : World} {b : Nat} {s : Int} (h : W.heap[b]? = some (.cells #[.int .i64 0, .int .i64 0, .int .u64 s, .int .u64 0, .string ⟨#[120]⟩] TPk (0, 0))) :
    W.cell? ⟨b, 0, none⟩ = some (.int .i64 0) ∧ W.cell? ⟨b, 1, none⟩ = some (.int .i64 0) ∧ W.cell? ⟨b, 2, none⟩ = some (.int .u64 s) ∧ W.cell? ⟨b, 3, none⟩ = some (.int .u64 0) ∧ W.cell? ⟨b, 4, none⟩ = some (.string ⟨#[120]⟩) ∧ W.frozen? ⟨b, 2, none⟩ = false :=
  ⟨cell_of_row W b 0 _ _ (0, 0) h, cell_of_row W b 1 _ _ (0, 0) h, cell_of_row W b 2 _ _ (0, 0) h, cell_of_row W b 3 _ _ (0, 0) h, cell_of_row W b 4 _ _ (0, 0) h, by simp [World.frozen?, h]⟩
theorem ln_cells {W : World} {E M N : Nat} {n : Int} (h : LnIs W E M N n) :
    W.cell? ⟨E, 0, none⟩ = some (.int .i64 0) ∧ W.cell? ⟨E, 1, none⟩ = some (.int .i64 0) ∧ W.cell? ⟨E, 3, none⟩ = some (.bool false) ∧ W.cell? ⟨E, 4, none⟩ = some (.int .u64 n) ∧ W.cell? ⟨E, 7, none⟩ = some (.map (some M)) ∧ W.frozen? ⟨E, 4, none⟩ = false :=
  ⟨cell_of_row W E 0 _ _ (0, 0) h.box, cell_of_row W E 1 _ _ (0, 0) h.box, cell_of_row W E 3 _ _ (0, 0) h.box, cell_of_row W E 4 _ _ (0, 0) h.box, cell_of_row W E 7 _ _ (0, 0) h.box, by simp [World.frozen?, h.box]⟩
theorem set_at {V : World} {b i : Nat} {t : TypeId} {q : Nat × Nat} {cs : Array Value} (v : Value) (h : V.heap[b]? = some (.cells cs t q)) : (V.setCell ⟨b, i, none⟩ v).heap[b]? = some (.cells (cs.setIfInBounds i v) t q) := by
  simp [World.setCell, Array.getElem?_modify, h]
theorem set_ne {V : World} {b i k : Nat} (v : Value) (h : k ≠ b) : (V.setCell ⟨b, i, none⟩ v).heap[k]? = V.heap[k]? := by
  simp [World.setCell, Array.getElem?_modify, Ne.symm h]
set_option maxRecDepth 20000 in
set_option maxHeartbeats 2000000 in
theorem send_x {w : World} {E M N B : Nat} (hL : LnIs w E M N 1) (hM : w.heap[M]? = some (.map #[] 0)) (hT : Sha.Tab w) (hBE : B ≤ E) (hBM : B ≤ M) (hB : B ≤ w.heap.size) :
    Calls Tryz.prog 8 #[.pointer (some ⟨E, 0, none⟩), .agg #[.int .i64 0, .int .i64 0, .int .u64 0, .int .u64 0, .string ⟨#[120]⟩], .int .u64 0] w fun e w' => e = .returned (.tuple #[.agg #[.int .i64 0, .int .i64 0, .int .u64 1, .int .u64 0, .string ⟨#[120]⟩], .int .i64 0]) ∧ LnIs w' E M N 2 ∧ (∃ C, w'.heap[M]? = some (.map #[entS C] 1)) ∧ Below B w w' := by
  obtain ⟨C, hC, hS⟩ := sum_x w hT
  have HS := Lib.hid hS
  have HC := Lib.hid hC
  have HL := Lib.hid hL
  have HT := Lib.hid hT
  have HN := Lib.hid (And.intro hM (And.intro hBE (And.intro hBM hB)))
  have H0 := Lib.hid (SX.new w)
  clear hS hL hT hM hBE hBM hB hC
  go_enter Tryz.func8, Tryz.ntmps8
  go_upto_region 1 with fail
  refine wp_region_held_drew (S := SX w #[.int .i64 0, .int .i64 0, .int .u64 0, .int .u64 0, .string ⟨#[120]⟩]) (by kernel_rfl) (SX.drew H0.out) (fun hHeld => ?_)
  refine tk (i := 0) (v := ?_) rfl (by kernel_rfl) (fun _ _ _ h => h) (by rfl) ?_ (by assumption) ?_
  rotate_left
  · (intro W hSw; obtain ⟨a0, a1, a2, a3, a4, a5⟩ := pk_cells hSw.2.1; obtain ⟨b0, b1, b3, b4, b7, bf⟩ := ln_cells (HL.out.below hSw.1); go_simp; try with_reducible rfl)
  try simp only [Act.put, gA, gZ, sA, sZ, sS]
  refine wpAnyH_ready (rs := [1]) (by kernel_rfl) (by simp) ?_
  refine AllReadyH.cons rfl (fun K hK => ?_) AllReadyH.nil
  simp only [gA, gS, gZ]
  rw [if_pos (by rfl)]
  go_simp
  (refine (made_yes (HL.out.below hHeld.1)).mono ?_; rintro e w1 ⟨rfl, hw⟩; obtain rfl := hw.symm; clear hw)
  go_wp2_with fail
  refine hK.out _ _ hHeld (fun hHeld => ?_)
  clear hK K
  try simp only [Act.put, gA, gS, gZ, sA, sZ, sS]
  refine tk (i := 2) (v := ?_) rfl (by kernel_rfl) (fun _ _ _ h => h) (by rfl) ?_ (by assumption) ?_
  rotate_left
  · (intro W hSw; obtain ⟨a0, a1, a2, a3, a4, a5⟩ := pk_cells hSw.2.1; obtain ⟨b0, b1, b3, b4, b7, bf⟩ := ln_cells (HL.out.below hSw.1); go_simp; try with_reducible rfl)
  try simp only [Act.put, gA, gS, gZ, sA, sZ, sS]
  refine tk (i := 3) (v := ?_) rfl (by kernel_rfl) (fun _ _ _ h => h) (by rfl) ?_ (by assumption) ?_
  rotate_left
  · (intro W hSw; obtain ⟨a0, a1, a2, a3, a4, a5⟩ := pk_cells hSw.2.1; obtain ⟨b0, b1, b3, b4, b7, bf⟩ := ln_cells (HL.out.below hSw.1); go_simp; try with_reducible rfl)
  try simp only [Act.put, gA, gS, gZ, sA, sZ, sS]
  refine tk (i := 4) (v := ?_) rfl (by kernel_rfl) (fun _ _ _ h => h) (by rfl) ?_ (by assumption) ?_
  rotate_left
  · (intro W hSw; obtain ⟨a0, a1, a2, a3, a4, a5⟩ := pk_cells hSw.2.1; obtain ⟨b0, b1, b3, b4, b7, bf⟩ := ln_cells (HL.out.below hSw.1); go_simp; try with_reducible rfl)
  try simp only [Act.put, gA, gS, gZ, sA, sZ, sS]
  refine tk (i := 5) (v := ?_) rfl (by kernel_rfl) (fun _ _ _ h => h) (by rfl) ?_ (by assumption) ?_
  rotate_left
  · (intro W hSw; obtain ⟨a0, a1, a2, a3, a4, a5⟩ := pk_cells hSw.2.1; obtain ⟨b0, b1, b3, b4, b7, bf⟩ := ln_cells (HL.out.below hSw.1); go_simp; try with_reducible rfl)
  try simp only [Act.put, gA, gS, gZ, sA, sZ, sS]
  refine tk (i := 6) (v := ?_) rfl (by kernel_rfl) (fun _ _ _ h => h) (by rfl) ?_ (by assumption) ?_
  rotate_left
  · (intro W hSw; obtain ⟨a0, a1, a2, a3, a4, a5⟩ := pk_cells hSw.2.1; obtain ⟨b0, b1, b3, b4, b7, bf⟩ := ln_cells (HL.out.below hSw.1); go_simp; try with_reducible rfl)
  try simp only [Act.put, gA, gS, gZ, sA, sZ, sS]
  refine tk (i := 7) (v := ?_) rfl (by kernel_rfl) (fun _ _ _ h => h) (by rfl) ?_ (by assumption) ?_
  rotate_left
  · (intro W hSw; obtain ⟨a0, a1, a2, a3, a4, a5⟩ := pk_cells hSw.2.1; obtain ⟨b0, b1, b3, b4, b7, bf⟩ := ln_cells (HL.out.below hSw.1); go_simp; try with_reducible rfl)
  try simp only [Act.put, gA, gS, gZ, sA, sZ, sS]
  refine tk (i := 8) (v := ?_) rfl (by kernel_rfl) (fun _ _ _ h => h) (by rfl) ?_ (by assumption) ?_
  rotate_left
  · (intro W hSw; obtain ⟨a0, a1, a2, a3, a4, a5⟩ := pk_cells hSw.2.1; obtain ⟨b0, b1, b3, b4, b7, bf⟩ := ln_cells (HL.out.below hSw.1); go_simp; try with_reducible rfl)
  try simp only [Act.put, gA, gS, gZ, sA, sZ, sS]
  refine tk (i := 9) (v := ?_) rfl (by kernel_rfl) (fun _ _ _ h => h) (by rfl) ?_ (by assumption) ?_
  rotate_left
  · (intro W hSw; obtain ⟨a0, a1, a2, a3, a4, a5⟩ := pk_cells hSw.2.1; obtain ⟨b0, b1, b3, b4, b7, bf⟩ := ln_cells (HL.out.below hSw.1); go_simp; try with_reducible rfl)
  try simp only [Act.put, gA, gS, gZ, sA, sZ, sS]
  refine wpAnyH_ready (rs := [10]) (by kernel_rfl) (by simp) ?_
  refine AllReadyH.cons rfl (fun K hK => ?_) AllReadyH.nil
  simp only [gA, gS, gZ]
  rw [if_pos (by rfl)]
  go_simp
  (refine (fits_x (HL.out.below hHeld.1)).mono ?_; rintro e w1 ⟨rfl, hb1⟩)
  go_wp2_with fail
  refine hK.out _ _ (SX.call hHeld hb1) (fun hHeld => ?_)
  clear hK K
  try simp only [Act.put, gA, gS, gZ, sA, sZ, sS]
  refine tk (i := 11) (v := ?_) rfl (by kernel_rfl) (fun _ _ _ h => h) (by rfl) ?_ (by assumption) ?_
  rotate_left
  · (intro W hSw; obtain ⟨a0, a1, a2, a3, a4, a5⟩ := pk_cells hSw.2.1; obtain ⟨b0, b1, b3, b4, b7, bf⟩ := ln_cells (HL.out.below hSw.1); go_simp; try with_reducible rfl)
  try simp only [Act.put, gA, gS, gZ, sA, sZ, sS]
  refine tk (i := 12) (v := ?_) rfl (by kernel_rfl) (fun _ _ _ h => h) (by rfl) ?_ (by assumption) ?_
  rotate_left
  · (intro W hSw; obtain ⟨a0, a1, a2, a3, a4, a5⟩ := pk_cells hSw.2.1; obtain ⟨b0, b1, b3, b4, b7, bf⟩ := ln_cells (HL.out.below hSw.1); go_simp; try with_reducible rfl)
  try simp only [Act.put, gA, gS, gZ, sA, sZ, sS]
  refine tk (i := 13) (v := ?_) rfl (by kernel_rfl) (fun _ _ _ h => h) (by rfl) ?_ (by assumption) ?_
  rotate_left
  · (intro W hSw; obtain ⟨a0, a1, a2, a3, a4, a5⟩ := pk_cells hSw.2.1; obtain ⟨b0, b1, b3, b4, b7, bf⟩ := ln_cells (HL.out.below hSw.1); go_simp; try with_reducible rfl)
  try simp only [Act.put, gA, gS, gZ, sA, sZ, sS]
  refine tk (i := 14) (v := ?_) rfl (by kernel_rfl) (fun _ _ _ h => h) (by rfl) ?_ (by assumption) ?_
  rotate_left
  · (intro W hSw; obtain ⟨a0, a1, a2, a3, a4, a5⟩ := pk_cells hSw.2.1; obtain ⟨b0, b1, b3, b4, b7, bf⟩ := ln_cells (HL.out.below hSw.1); go_simp; try with_reducible rfl)
  try simp only [Act.put, gA, gS, gZ, sA, sZ, sS]
  refine tk (i := 15) (v := ?_) rfl (by kernel_rfl) (fun _ _ _ h => h) (by rfl) ?_ (by assumption) ?_
  rotate_left
  · (intro W hSw; obtain ⟨a0, a1, a2, a3, a4, a5⟩ := pk_cells hSw.2.1; obtain ⟨b0, b1, b3, b4, b7, bf⟩ := ln_cells (HL.out.below hSw.1); go_simp; try with_reducible rfl)
  try simp only [Act.put, gA, gS, gZ, sA, sZ, sS]
  refine tk (i := 16) (v := ?_) rfl (by kernel_rfl) (fun _ _ _ h => h) (by rfl) ?_ (by assumption) ?_
  rotate_left
  · (intro W hSw; obtain ⟨a0, a1, a2, a3, a4, a5⟩ := pk_cells hSw.2.1; obtain ⟨b0, b1, b3, b4, b7, bf⟩ := ln_cells (HL.out.below hSw.1); go_simp; try with_reducible rfl)
  try simp only [Act.put, gA, gS, gZ, sA, sZ, sS]
  refine tk (i := 17) (v := ?_) rfl (by kernel_rfl) (fun _ _ _ h => h) (by rfl) ?_ (by assumption) ?_
  rotate_left
  · (intro W hSw; obtain ⟨a0, a1, a2, a3, a4, a5⟩ := pk_cells hSw.2.1; obtain ⟨b0, b1, b3, b4, b7, bf⟩ := ln_cells (HL.out.below hSw.1); go_simp; try with_reducible rfl)
  try simp only [Act.put, gA, gS, gZ, sA, sZ, sS]
  refine tk (i := 18) (v := ?_) rfl (by kernel_rfl) (fun _ _ _ h => h) (by rfl) ?_ (by assumption) ?_
  rotate_left
  · (intro W hSw; obtain ⟨a0, a1, a2, a3, a4, a5⟩ := pk_cells hSw.2.1; obtain ⟨b0, b1, b3, b4, b7, bf⟩ := ln_cells (HL.out.below hSw.1); go_simp; try with_reducible rfl)
  try simp only [Act.put, gA, gS, gZ, sA, sZ, sS]
  refine wpAnyH_done (by kernel_rfl) ?_ _
  obtain ⟨a0, a1, a2, a3, a4, a5⟩ := pk_cells hHeld.2.1
  obtain ⟨b0, b1, b3, b4, b7, bf⟩ := ln_cells (HL.out.below hHeld.1)
  have H1 := Lib.hid hHeld
  clear hHeld H0
  go_wp2_with fail
  refine (late_x _).mono ?_
  rintro _ w2 ⟨rfl, hb2⟩
  have H2 := Lib.hid (SX.call H1.out hb2)
  clear a0 a1 a2 a3 a4 a5 b0 b1 b3 b4 b7 bf H1 hb2
  obtain ⟨a0, a1, a2, a3, a4, a5⟩ := pk_cells H2.out.2.1
  obtain ⟨b0, b1, b3, b4, b7, bf⟩ := ln_cells (HL.out.below H2.out.1)
  go_upto_region 10 with fail
  have hEl : E < w.heap.size := lt_of HL.out.box
  have hMl : M < w.heap.size := HL.out.lm
  have h3 : SX w #[.int .i64 0, .int .i64 0, .int .u64 1, .int .u64 0, .string ⟨#[120]⟩] (w2.setCell ⟨w.heap.size, 2, none⟩ (.int .u64 1)) :=
    ⟨H2.out.1.setCell (p := ⟨_, _, none⟩) (Nat.le_refl _) _, set_at _ H2.out.2.1, (set_ne _ (by omega)).trans H2.out.2.2⟩
  obtain ⟨w3, hw3⟩ : ∃ X, X = w2.setCell ⟨w.heap.size, 2, none⟩ (.int .u64 1) := ⟨_, rfl⟩
  rw [← hw3] at h3 ⊢
  clear hw3 a0 a1 a2 a3 a4 a5 b0 b1 b3 b4 b7 bf H2
  have H3 := Lib.hid h3
  have HZ : Hid (SZ B w E M N #[.int .i64 0, .int .i64 0, .int .u64 1, .int .u64 0, .string ⟨#[120]⟩] w3) := Lib.hid ⟨h3.1.mono HN.out.2.2.2, h3.2.1, h3.2.2, HL.out.below h3.1⟩
  have HM3 : Hid (w3.heap[M]? = some (.map #[] 0)) := Lib.hid ((h3.1.block M hMl).trans HN.out.1)
  have HB3 : Hid (B ≤ w3.heap.size) := Lib.hid (Nat.le_trans HN.out.2.2.2 h3.1.size)
  have HL3 : Hid (M < w3.heap.size) := Lib.hid (lt_of HM3.out)
  have HN2 := Lib.hid hMl
  have HE2 := Lib.hid hEl
  clear h3 hMl hEl
  refine wp_region_held_drew (S := SZ B w E M N #[.int .i64 0, .int .i64 0, .int .u64 1, .int .u64 0, .string ⟨#[120]⟩]) (by kernel_rfl) (SZ.drew HZ.out) (fun hHeld => ?_)
  refine tk (i := 0) (v := ?_) rfl (by kernel_rfl) (fun _ _ _ h => h) (by rfl) ?_ (by assumption) ?_
  rotate_left
  · (intro W hSw; obtain ⟨a0, a1, a2, a3, a4, a5⟩ := pk_cells hSw.2.1; obtain ⟨b0, b1, b3, b4, b7, bf⟩ := ln_cells hSw.2.2.2; go_simp; try with_reducible rfl)
  try simp only [Act.put, gA, gZ, sA, sZ, sS]
  refine tk (i := 1) (v := ?_) rfl (by kernel_rfl) (fun _ _ _ h => h) (by rfl) ?_ (by assumption) ?_
  rotate_left
  · (intro W hSw; obtain ⟨a0, a1, a2, a3, a4, a5⟩ := pk_cells hSw.2.1; obtain ⟨b0, b1, b3, b4, b7, bf⟩ := ln_cells hSw.2.2.2; go_simp; try with_reducible rfl)
  try simp only [Act.put, gA, gS, gZ, sA, sZ, sS]
  refine tk (i := 2) (v := ?_) rfl (by kernel_rfl) (fun _ _ _ h => h) (by rfl) ?_ (by assumption) ?_
  rotate_left
  · (intro W hSw; obtain ⟨a0, a1, a2, a3, a4, a5⟩ := pk_cells hSw.2.1; obtain ⟨b0, b1, b3, b4, b7, bf⟩ := ln_cells hSw.2.2.2; go_simp; try with_reducible rfl)
  try simp only [Act.put, gA, gS, gZ, sA, sZ, sS]
  refine tk (i := 3) (v := ?_) rfl (by kernel_rfl) (fun _ _ _ h => h) (by rfl) ?_ (by assumption) ?_
  rotate_left
  · (intro W hSw; obtain ⟨a0, a1, a2, a3, a4, a5⟩ := pk_cells hSw.2.1; obtain ⟨b0, b1, b3, b4, b7, bf⟩ := ln_cells hSw.2.2.2; go_simp; try with_reducible rfl)
  try simp only [Act.put, gA, gS, gZ, sA, sZ, sS]
  refine tk (i := 4) (v := ?_) rfl (by kernel_rfl) (fun _ _ _ h => h) (by rfl) ?_ (by assumption) ?_
  rotate_left
  · (intro W hSw; obtain ⟨a0, a1, a2, a3, a4, a5⟩ := pk_cells hSw.2.1; obtain ⟨b0, b1, b3, b4, b7, bf⟩ := ln_cells hSw.2.2.2; go_simp; try with_reducible rfl)
  try simp only [Act.put, gA, gS, gZ, sA, sZ, sS]
  refine tk (i := 5) (v := ?_) rfl (by kernel_rfl) (fun _ _ _ h => h) (by rfl) ?_ (by assumption) ?_
  rotate_left
  · (intro W hSw; obtain ⟨a0, a1, a2, a3, a4, a5⟩ := pk_cells hSw.2.1; obtain ⟨b0, b1, b3, b4, b7, bf⟩ := ln_cells hSw.2.2.2; go_simp; try with_reducible rfl)
  try simp only [Act.put, gA, gS, gZ, sA, sZ, sS]
  refine tk (i := 6) (v := ?_) rfl (by kernel_rfl) (fun _ _ _ h => h) (by rfl) ?_ (by assumption) ?_
  rotate_left
  · (intro W hSw; obtain ⟨a0, a1, a2, a3, a4, a5⟩ := pk_cells hSw.2.1; obtain ⟨b0, b1, b3, b4, b7, bf⟩ := ln_cells hSw.2.2.2; go_simp; try with_reducible rfl)
  try simp only [Act.put, gA, gS, gZ, sA, sZ, sS]
  refine wpAnyH_ready (rs := [7]) (by kernel_rfl) (by simp) ?_
  refine AllReadyH.cons rfl (fun K hK => ?_) AllReadyH.nil
  simp only [gA, gS, gZ]
  rw [if_pos (by rfl)]
  go_simp
  (refine (HS.out _ (Sha.tab_below HT.out H3.out.1.drew)).mono ?_; rintro e w4 ⟨rfl, hb4⟩)
  go_wp2_with fail
  refine hK.out _ _ (SZ.call hHeld hb4 HB3.out) (fun hHeld => ?_)
  clear hK K
  try simp only [Act.put, gA, gS, gZ, sA, sZ, sS]
  have hput := put_one M C w4 ((hb4.block M HL3.out).trans HM3.out)
  refine wpAnyH_ready (rs := [8]) (by kernel_rfl) (by simp) ?_
  refine AllReadyH.cons rfl (fun K hK => ?_) AllReadyH.nil
  simp only [gA, gS, gZ]
  rw [if_pos (by rfl)]
  go_simp
  refine hK.out _ _ (SZ.put hHeld HN.out.2.2.1 HN2.out C) (fun hHeld => ?_)
  clear hK K
  try simp only [Act.put, gA, gS, gZ, sA, sZ, sS]
  refine wpAnyH_done (by kernel_rfl) ?_ _
  have H5 := Lib.hid hHeld
  have HP : Hid ((putW w4 M C).heap[M]? = some (.map #[entS C] 1)) := Lib.hid (putW_at (Nat.lt_of_lt_of_le HL3.out hb4.size) C)
  obtain ⟨w5, hw5⟩ : ∃ X, X = putW w4 M C := ⟨_, rfl⟩
  rw [← hw5] at H5 HP ⊢
  clear hw5 hput hb4 hHeld HM3 HB3 HL3 HZ H3
  obtain ⟨b0, b1, b3, b4, b7, bf⟩ := ln_cells H5.out.2.2.2
  go_upto_region 12 with fail
  have h6 : Below B w (w5.setCell ⟨E, 4, none⟩ (.int .u64 2)) := H5.out.1.setCell (p := ⟨_, _, none⟩) HN.out.2.1 _
  have hl6 : LnIs (w5.setCell ⟨E, 4, none⟩ (.int .u64 2)) E M N 2 := ⟨set_at _ H5.out.2.2.2.box, by have := H5.out.2.2.2.lm; simpa using this, H5.out.2.2.2.ne⟩
  have hA : (w5.setCell ⟨E, 4, none⟩ (.int .u64 2)).heap[w.heap.size]? = some (.cells #[.int .i64 0, .int .i64 0, .int .u64 1, .int .u64 0, .string ⟨#[120]⟩] TPk (0, 0)) := (set_ne _ (by have := HE2.out; omega)).trans H5.out.2.1
  have hR : (w5.setCell ⟨E, 4, none⟩ (.int .u64 2)).heap[w.heap.size + 1]? = some (.cells #[.int .i64 0, .int .i64 0, .int .u64 0, .int .u64 0, .string ⟨#[]⟩] TPk (0, 0)) := (set_ne _ (by have := HE2.out; omega)).trans H5.out.2.2.1
  have hP : (w5.setCell ⟨E, 4, none⟩ (.int .u64 2)).heap[M]? = some (.map #[entS C] 1) := (set_ne _ H5.out.2.2.2.ne).trans HP.out
  obtain ⟨w6, hw6⟩ : ∃ X, X = w5.setCell ⟨E, 4, none⟩ (.int .u64 2) := ⟨_, rfl⟩
  rw [← hw6] at h6 hl6 hA hR hP ⊢
  clear hw6 b0 b1 b3 b4 b7 bf H5 HP
  have H6 := Lib.hid (And.intro h6 (And.intro hl6 hP))
  clear h6 hl6 hP
  refine wp_region_lit ?_
  refine wpList_load_row rfl TPk _ rfl w.heap.size rfl TPk #[.int .i64 0, .int .i64 0, .int .u64 1, .int .u64 0, .string ⟨#[120]⟩] (0, 0) _ hA Tryz.underlying33 rfl (by kernel_rfl) ?_
  refine wpList_store_rowTo rfl TPk _ _ rfl rfl (w.heap.size + 1) #[.int .i64 0, .int .i64 0, .int .u64 1, .int .u64 0, .string ⟨#[120]⟩] rfl rfl TPk _ hR (by kernel_rfl) rfl (by kernel_rfl) ?_
  refine wpList_step (fun K hK => ?_)
  go_simp
  refine hK _ _ ?_
  clear hK K
  refine wpList_nil ?_
  have HR' := setRow_heap w6 (w.heap.size + 1) _ #[.int .i64 0, .int .i64 0, .int .u64 1, .int .u64 0, .string ⟨#[120]⟩] TPk (0, 0) hR
  have hB9 := below_setRow H6.out.1 (by have := HN.out.2.2.2; omega : B ≤ w.heap.size + 1) #[.int .i64 0, .int .i64 0, .int .u64 1, .int .u64 0, .string ⟨#[120]⟩]
  have hl9 : LnIs (w6.setRow (w.heap.size + 1) #[.int .i64 0, .int .i64 0, .int .u64 1, .int .u64 0, .string ⟨#[120]⟩]) E M N 2 := ⟨(setRow_other w6 _ _ _ (by have := HE2.out; omega)).trans H6.out.2.1.box, by have := H6.out.2.1.lm; simpa [World.setRow] using this, H6.out.2.1.ne⟩
  have hP9 : (w6.setRow (w.heap.size + 1) #[.int .i64 0, .int .i64 0, .int .u64 1, .int .u64 0, .string ⟨#[120]⟩]).heap[M]? = some (.map #[entS C] 1) := (setRow_other w6 _ _ _ (by have := HN2.out; omega)).trans H6.out.2.2
  obtain ⟨w9, hw9⟩ : ∃ X, X = w6.setRow (w.heap.size + 1) #[.int .i64 0, .int .i64 0, .int .u64 1, .int .u64 0, .string ⟨#[120]⟩] := ⟨_, rfl⟩
  rw [← hw9] at HR' hB9 hl9 hP9 ⊢
  have H9 := Lib.hid (And.intro hl9 (And.intro hP9 hB9))
  clear hw9 hl9 hP9 hB9 hA hR
  go_wp2_with fail
  refine bodyPost_ret (v := .tuple #[.agg #[.int .i64 0, .int .i64 0, .int .u64 1, .int .u64 0, .string ⟨#[120]⟩], .int .i64 0]) (res_cb Tryz.results8 _ _ (w.heap.size + 1) #[.int .i64 0, .int .i64 0, .int .u64 1, .int .u64 0, .string ⟨#[120]⟩] rfl (run_loadVar_row w9 (w.heap.size + 1) TPk TPk #[.int .i64 0, .int .i64 0, .int .u64 1, .int .u64 0, .string ⟨#[120]⟩] (0, 0) _ HR' Tryz.underlying33 rfl (by kernel_rfl))) rfl ⟨rfl, H9.out.1, ⟨C, H9.out.2.1⟩, H9.out.2.2⟩
end Go.Proofs.YtdljphbfbiganaaGreatDoor.Ln
