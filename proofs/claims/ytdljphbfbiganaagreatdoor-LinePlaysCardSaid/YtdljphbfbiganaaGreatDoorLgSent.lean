/- line: a packet is sent at an end in whatever state, and it is. -/
import Derived.Test.YtdljphbfbiganaaGreatDoorTk
import Derived.Test.YtdljphbfbiganaaGreatDoorLgSend
namespace Go.Proofs.YtdljphbfbiganaaGreatDoor.Lg
open Go Go.RowKit Packet Ln Mg
set_option linter.unusedVariables false

/-- behind the commitment -/
def PZ (w : World) (p : P5) (E M N : Nat) (s : St) (W : World) : Prop := FrL E M N w W ∧ PkB W w.heap.size p ∧ W.heap[w.heap.size + 1]? = some (.cells #[.int .i64 0, .int .i64 0, .int .u64 0, .int .u64 0, .string ⟨#[]⟩] TPk (0, 0)) ∧ W.heap[E]? = some (.cells #[.int .i64 s.ch, .int .i64 s.sd, .bool s.o, .bool s.cl, .int .u64 s.sn, .int .u64 s.rc, .int .u64 s.ak, .map (some M), .map (some N)] TLn (0, 0)) ∧ MG KS W N s.ac
section
variable {w W V : World} {E M N : Nat} {p : P5} {s : St}
theorem PZ.drew (h : PZ w p E M N s W) : PZ w p E M N s W.drew := ⟨h.1.call (Below.refl _ _).drew, h.2.1, h.2.2.1, h.2.2.2.1, h.2.2.2.2.below (Below.refl _ _).drew⟩
theorem PZ.call (h : PZ w p E M N s W) (hb : Below W.heap.size W V) : PZ w p E M N s V :=
  ⟨h.1.call hb, h.2.1.below hb, (hb.block _ (lt_of h.2.2.1)).trans h.2.2.1, (hb.block _ (lt_of h.2.2.2.1)).trans h.2.2.2.1, h.2.2.2.2.below hb⟩
theorem PZ.on (h : PZ w p E M N s W) (ho : OnB M W V) (hM : M < w.heap.size) (hE : E ≠ M) (hN : M ≠ N) : PZ w p E M N s V :=
  ⟨h.1.onB ho (.inr (.inl rfl)), (ho.block _ (by omega)).trans h.2.1, (ho.block _ (by omega)).trans h.2.2.1, (ho.block _ hE).trans h.2.2.2.1, h.2.2.2.2.of_eq (ho.block _ hN.symm)⟩
theorem PZ.cells (h : PZ w p E M N s W) : W.cell? ⟨E, 4, none⟩ = some (.int .u64 s.sn) ∧ W.cell? ⟨E, 7, none⟩ = some (.map (some M)) ∧ (∀ i, W.frozen? ⟨E, i, none⟩ = false) :=
  ⟨cell_of_row W E 4 _ _ (0, 0) h.2.2.2.1, cell_of_row W E 7 _ _ (0, 0) h.2.2.2.1, fun i => by simp [World.frozen?, h.2.2.2.1]⟩
end
/-- the packet as it is sent -/
abbrev pN (p : P5) (s : St) : P5 := ⟨p.c, p.f, s.sn, p.t, p.d⟩
/-- the end behind it -/
def sentS (p : P5) (s : St) : St := { s with sn := s.sn + 1, cm := ins s.sn (sumP (pN p s)) s.cm }
set_option maxRecDepth 20000 in
set_option maxHeartbeats 4000000 in
theorem send_ok {w : World} {E M N : Nat} {s : St} (p : P5) (h : Int) (hL : LG w E M N s) (hp : p.ok) (hT : Sha.Tab w) (hn0 : 0 ≤ s.sn) (hn1 : s.sn < 18446744073709551615) (hfb : fitG s p s.sd = true) (hs : (p.s != 0) = false) (hcl : s.cl = false) (hlt : lateB p h = false) :
    Calls Tryz.prog 8 #[.pointer (some ⟨E, 0, none⟩), pkv p, .int .u64 h] w fun e w' => e = .returned (.tuple #[.agg #[.int .i64 p.c, .int .i64 p.f, .int .u64 s.sn, .int .u64 p.t, .string p.d], .int .i64 0]) ∧ LG w' E M N (sentS p s) ∧ FrL E M N w w' := by
  have hr : p.right := ((fitG_iff s p s.sd).1 hfb).1
  have hS := sum_g (pN p s) hr ⟨hn0, (by show s.sn < 18446744073709551616; omega), hp.2.2.1, hp.2.2.2.1, hp.2.2.2.2⟩
  obtain ⟨y, hy⟩ : ∃ y, y = s.sn + 1 := ⟨_, rfl⟩
  have hw : IntKind.u64.wrap (s.sn + 1) = y := by rw [hy]; exact IntWalk.u64_in _ ⟨by omega, by omega⟩
  have hne : (s.sn == 18446744073709551615) = false := by simpa using (by omega : ¬ s.sn = 18446744073709551615)
  have HY := Lib.hid hy
  have HW := Lib.hid hw
  have HNe := Lib.hid hne
  have HT := Lib.hid hT
  have HN := Lib.hid (And.intro hL.lt.2.1 (And.intro hL.em hL.mn))
  have HEl := Lib.hid hL.lt
  have HCk := Lib.hid (And.intro hL.cok hL.aok)
  obtain ⟨C, hC⟩ : ∃ C, C = sumP (pN p s) := ⟨_, rfl⟩
  have HS := Lib.hid hS
  have HLt := Lib.hid (fun W => hlt ▸ late_g p h W)
  clear hS hr hy hw hne hT hlt hp hn0 hn1 hC
  have HF := Lib.hid (fun W (hW : LG W E M N s) => hfb ▸ fits_g p s.sd hW)
  have H0 := Lib.hid (PS.new (p := p) hL)
  clear hfb hL
  go_enter Tryz.func8, Tryz.ntmps8
  go_upto_region 1 with fail
  refine wp_region_held_drew (S := PS w p E M N s) (by kernel_rfl) (PS.drew H0.out) (fun hHeld => ?_)
  refine tk (i := 0) (v := ?_) rfl (by kernel_rfl) (fun _ _ _ h => h) (by rfl) ?_ (by assumption) ?_
  rotate_left
  · (intro W hSw; have hz := hSw.1.2.1.cells; have hy := hSw.1.2.2.cells; go_simp; try with_reducible rfl)
  try simp only [Act.put, gA, gZ, sA, sZ, sS]
  refine wpAnyH_ready (rs := [1]) (by kernel_rfl) (by simp) ?_
  refine AllReadyH.cons rfl (fun K hK => ?_) AllReadyH.nil
  simp only [gA, gS, gZ]
  rw [if_pos (by rfl)]
  go_simp
  (refine (made_g hHeld.1.2.2).mono ?_; rintro e w1 ⟨rfl, hw⟩; obtain rfl := hw.symm; clear hw)
  go_wp2_with fail
  refine hK.out _ _ hHeld (fun hHeld => ?_)
  clear hK K
  try simp only [Act.put, gA, gS, gZ, sA, sZ, sS]
  refine tk (i := 2) (v := ?_) rfl (by kernel_rfl) (fun _ _ _ h => h) (by rfl) ?_ (by assumption) ?_
  rotate_left
  · (intro W hSw; have hz := hSw.1.2.1.cells; have hy := hSw.1.2.2.cells; go_simp; try with_reducible rfl)
  try simp only [Act.put, gA, gS, gZ, sA, sZ, sS]
  refine tk (i := 3) (v := ?_) rfl (by kernel_rfl) (fun _ _ _ h => h) (by rfl) ?_ (by assumption) ?_
  rotate_left
  · (intro W hSw; have hz := hSw.1.2.1.cells; have hy := hSw.1.2.2.cells; go_simp; try with_reducible rfl)
  try simp only [Act.put, gA, gS, gZ, sA, sZ, sS]
  refine tk (i := 4) (v := ?_) rfl (by kernel_rfl) (fun _ _ _ h => h) (by rfl) ?_ (by assumption) ?_
  rotate_left
  · (intro W hSw; have hz := hSw.1.2.1.cells; have hy := hSw.1.2.2.cells; go_simp; try with_reducible rfl)
  try simp only [Act.put, gA, gS, gZ, sA, sZ, sS]
  refine tk (i := 5) (v := ?_) rfl (by kernel_rfl) (fun _ _ _ h => h) (by rfl) ?_ (by assumption) ?_
  rotate_left
  · (intro W hSw; have hz := hSw.1.2.1.cells; have hy := hSw.1.2.2.cells; go_simp; try with_reducible rfl)
  try simp only [Act.put, gA, gS, gZ, sA, sZ, sS]
  refine tk (i := 6) (v := ?_) rfl (by kernel_rfl) (fun _ _ _ h => h) (by rfl) ?_ (by assumption) ?_
  rotate_left
  · (intro W hSw; have hz := hSw.1.2.1.cells; have hy := hSw.1.2.2.cells; go_simp; try with_reducible rfl)
  try simp only [Act.put, gA, gS, gZ, sA, sZ, sS]
  refine tk (i := 7) (v := ?_) rfl (by kernel_rfl) (fun _ _ _ h => h) (by rfl) ?_ (by assumption) ?_
  rotate_left
  · (intro W hSw; have hz := hSw.1.2.1.cells; have hy := hSw.1.2.2.cells; go_simp; try with_reducible rfl)
  try simp only [Act.put, gA, gS, gZ, sA, sZ, sS]
  refine tk (i := 8) (v := ?_) rfl (by kernel_rfl) (fun _ _ _ h => h) (by rfl) ?_ (by assumption) ?_
  rotate_left
  · (intro W hSw; have hz := hSw.1.2.1.cells; have hy := hSw.1.2.2.cells; go_simp; try with_reducible rfl)
  try simp only [Act.put, gA, gS, gZ, sA, sZ, sS]
  refine tk (i := 9) (v := ?_) rfl (by kernel_rfl) (fun _ _ _ h => h) (by rfl) ?_ (by assumption) ?_
  rotate_left
  · (intro W hSw; have hz := hSw.1.2.1.cells; have hy := hSw.1.2.2.cells; go_simp; try with_reducible rfl)
  try simp only [Act.put, gA, gS, gZ, sA, sZ, sS]
  refine wpAnyH_ready (rs := [10]) (by kernel_rfl) (by simp) ?_
  refine AllReadyH.cons rfl (fun K hK => ?_) AllReadyH.nil
  simp only [gA, gS, gZ]
  rw [if_pos (by rfl)]
  go_simp
  (refine (HF.out _ hHeld.1.2.2).mono ?_; rintro e w1 ⟨rfl, hb1⟩)
  go_wp2_with fail
  refine hK.out _ _ (PS.call hHeld hb1) (fun hHeld => ?_)
  clear hK K
  try simp only [Act.put, gA, gS, gZ, sA, sZ, sS]
  refine tk (i := 11) (v := ?_) rfl (by kernel_rfl) (fun _ _ _ h => h) (by rfl) ?_ (by assumption) ?_
  rotate_left
  · (intro W hSw; have hz := hSw.1.2.1.cells; have hy := hSw.1.2.2.cells; go_simp; try with_reducible rfl)
  try simp only [Act.put, gA, gS, gZ, sA, sZ, sS]
  refine tk (i := 12) (v := ?_) rfl (by kernel_rfl) (fun _ _ _ h => h) (by rfl) ?_ (by assumption) ?_
  rotate_left
  · (intro W hSw; have hz := hSw.1.2.1.cells; have hy := hSw.1.2.2.cells; go_simp; try with_reducible rfl)
  try simp only [Act.put, gA, gS, gZ, sA, sZ, sS]
  refine tk (i := 13) (v := ?_) rfl (by kernel_rfl) (fun _ _ _ h => h) (by rfl) ?_ (by assumption) ?_
  rotate_left
  · (intro W hSw; have hz := hSw.1.2.1.cells; have hy := hSw.1.2.2.cells; go_simp; try with_reducible rfl)
  try simp only [Act.put, gA, gS, gZ, sA, sZ, sS]
  refine tk (i := 14) (v := ?_) rfl (by kernel_rfl) (fun _ _ _ h => h) (by rfl) ?_ (by assumption) ?_
  rotate_left
  · (intro W hSw; have hz := hSw.1.2.1.cells; have hy := hSw.1.2.2.cells; go_simp; try with_reducible rfl)
  try simp only [Act.put, gA, gS, gZ, sA, sZ, sS]
  refine tk (i := 15) (v := ?_) rfl (by kernel_rfl) (fun _ _ _ h => h) (by rfl) ?_ (by assumption) ?_
  rotate_left
  · (intro W hSw; have hz := hSw.1.2.1.cells; have hy := hSw.1.2.2.cells; go_simp; try with_reducible rfl)
  try simp only [Act.put, gA, gS, gZ, sA, sZ, sS]
  refine tk (i := 16) (v := ?_) rfl (by kernel_rfl) (fun _ _ _ h => h) (by rfl) ?_ (by assumption) ?_
  rotate_left
  · (intro W hSw; have hz := hSw.1.2.1.cells; have hy := hSw.1.2.2.cells; go_simp; try with_reducible rfl)
  try simp only [Act.put, gA, gS, gZ, sA, sZ, sS]
  refine tk (i := 17) (v := ?_) rfl (by kernel_rfl) (fun _ _ _ h => h) (by rfl) ?_ (by assumption) ?_
  rotate_left
  · (intro W hSw; have hz := hSw.1.2.1.cells; have hy := hSw.1.2.2.cells; go_simp; try with_reducible rfl)
  try simp only [Act.put, gA, gS, gZ, sA, sZ, sS]
  refine tk (i := 18) (v := ?_) rfl (by kernel_rfl) (fun _ _ _ h => h) (by rfl) ?_ (by assumption) ?_
  rotate_left
  · (intro W hSw; have hz := hSw.1.2.1.cells; have hy := hSw.1.2.2.cells; go_simp; try with_reducible rfl)
  try simp only [Act.put, gA, gS, gZ, sA, sZ, sS]
  refine wpAnyH_done (by kernel_rfl) ?_ _
  have H1 := Lib.hid hHeld
  clear hHeld H0
  obtain ⟨h0, h1, h2, h3, h4, hf0⟩ := H1.out.1.2.1.cells
  obtain ⟨e0, e1, e2, e3, e4, e5, e6, e7, e8, hf1⟩ := H1.out.1.2.2.cells
  go_wp2_with fail
  refine (HLt.out _).mono ?_
  rintro _ w2 ⟨rfl, hb2⟩
  have H2 := Lib.hid (PS.call H1.out hb2)
  clear h0 h1 h2 h3 h4 hf0 e0 e1 e2 e3 e4 e5 e6 e7 e8 hf1 H1 hb2
  obtain ⟨h0, h1, h2, h3, h4, hf0⟩ := H2.out.1.2.1.cells
  obtain ⟨e0, e1, e2, e3, e4, e5, e6, e7, e8, hf1⟩ := H2.out.1.2.2.cells
  have hne := HNe.out
  go_upto_region 10 with fail
  clear hne
  have hE := HEl.out.1
  have ho := onB_setCell w2 w.heap.size 2 (.int .u64 s.sn)
  have g3 : PL w w.heap.size (pN p s) E M N s (w2.setCell ⟨w.heap.size, 2, none⟩ (.int .u64 s.sn)) :=
    ⟨ho.below H2.out.1.1 (Nat.le_refl _), set_at _ H2.out.1.2.1, H2.out.1.2.2.of_eq (ho.block _ (by omega)) (ho.block _ (by have := HEl.out.2.1; omega)) (ho.block _ (by have := HEl.out.2.2; omega))⟩
  have hr3 := (ho.block (w.heap.size + 1) (by omega)).trans H2.out.2
  obtain ⟨w3, hw3⟩ : ∃ X, X = w2.setCell ⟨w.heap.size, 2, none⟩ (.int .u64 s.sn) := ⟨_, rfl⟩
  rw [← hw3] at g3 hr3 ⊢
  clear hw3 ho h0 h1 h2 h3 h4 hf0 e0 e1 e2 e3 e4 e5 e6 e7 e8 hf1 H2 hE
  have H3 := Lib.hid g3
  have HZ : Hid (PZ w (pN p s) E M N s w3) := Lib.hid ⟨FrL.of_below g3.1, g3.2.1, hr3, g3.2.2.box, g3.2.2.ack⟩
  have HM3 : Hid (MG KS w3 M s.cm) := Lib.hid g3.2.2.com
  clear g3 hr3
  refine wp_region_held_drew (S := PZ w (pN p s) E M N s) (by kernel_rfl) (PZ.drew HZ.out) (fun hHeld => ?_)
  refine tk (i := 0) (v := ?_) rfl (by kernel_rfl) (fun _ _ _ h => h) (by rfl) ?_ (by assumption) ?_
  rotate_left
  · (intro W hSw; have hz := hSw.2.1.cells; obtain ⟨e4, e7, hf1⟩ := hSw.cells; go_simp; try with_reducible rfl)
  try simp only [Act.put, gA, gZ, sA, sZ, sS]
  refine tk (i := 1) (v := ?_) rfl (by kernel_rfl) (fun _ _ _ h => h) (by rfl) ?_ (by assumption) ?_
  rotate_left
  · (intro W hSw; have hz := hSw.2.1.cells; obtain ⟨e4, e7, hf1⟩ := hSw.cells; go_simp; try with_reducible rfl)
  try simp only [Act.put, gA, gS, gZ, sA, sZ, sS]
  refine tk (i := 2) (v := ?_) rfl (by kernel_rfl) (fun _ _ _ h => h) (by rfl) ?_ (by assumption) ?_
  rotate_left
  · (intro W hSw; have hz := hSw.2.1.cells; obtain ⟨e4, e7, hf1⟩ := hSw.cells; go_simp; try with_reducible rfl)
  try simp only [Act.put, gA, gS, gZ, sA, sZ, sS]
  refine tk (i := 3) (v := ?_) rfl (by kernel_rfl) (fun _ _ _ h => h) (by rfl) ?_ (by assumption) ?_
  rotate_left
  · (intro W hSw; have hz := hSw.2.1.cells; obtain ⟨e4, e7, hf1⟩ := hSw.cells; go_simp; try with_reducible rfl)
  try simp only [Act.put, gA, gS, gZ, sA, sZ, sS]
  refine tk (i := 4) (v := ?_) rfl (by kernel_rfl) (fun _ _ _ h => h) (by rfl) ?_ (by assumption) ?_
  rotate_left
  · (intro W hSw; have hz := hSw.2.1.cells; obtain ⟨e4, e7, hf1⟩ := hSw.cells; go_simp; try with_reducible rfl)
  try simp only [Act.put, gA, gS, gZ, sA, sZ, sS]
  refine tk (i := 5) (v := ?_) rfl (by kernel_rfl) (fun _ _ _ h => h) (by rfl) ?_ (by assumption) ?_
  rotate_left
  · (intro W hSw; have hz := hSw.2.1.cells; obtain ⟨e4, e7, hf1⟩ := hSw.cells; go_simp; try with_reducible rfl)
  try simp only [Act.put, gA, gS, gZ, sA, sZ, sS]
  refine tk (i := 6) (v := ?_) rfl (by kernel_rfl) (fun _ _ _ h => h) (by rfl) ?_ (by assumption) ?_
  rotate_left
  · (intro W hSw; have hz := hSw.2.1.cells; obtain ⟨e4, e7, hf1⟩ := hSw.cells; go_simp; try with_reducible rfl)
  try simp only [Act.put, gA, gS, gZ, sA, sZ, sS]
  refine wpAnyH_ready (rs := [7]) (by kernel_rfl) (by simp) ?_
  refine AllReadyH.cons rfl (fun K hK => ?_) AllReadyH.nil
  simp only [gA, gS, gZ]
  rw [if_pos (by rfl)]
  go_simp
  (refine (HS.out _ (Sha.tab_below HT.out H3.out.1.drew)).mono ?_; rintro e w4 ⟨rfl, hb4⟩)
  go_wp2_with fail
  refine hK.out _ _ (PZ.call hHeld hb4) (fun hHeld => ?_)
  clear hK K
  try simp only [Act.put, gA, gS, gZ, sA, sZ, sS]
  obtain ⟨w5, hput, hmg, hon⟩ := put_run ks_ok s.sn (sumP (pN p s)) M s.cm w4 (HM3.out.of_eq (hb4.block M HM3.out.lt))
  have hput' : (Instr.mapUpdate TMp (.map (some M)) (.int .u64 s.sn) (.agg (sumP (pN p s)))).run Tryz.prog w4 = .ok () w5 := hput
  have HG := Lib.hid hmg
  have HO := Lib.hid hon
  clear hput hmg hon
  refine wpAnyH_ready (rs := [8]) (by kernel_rfl) (by simp) ?_
  refine AllReadyH.cons rfl (fun K hK => ?_) AllReadyH.nil
  simp only [gA, gS, gZ]
  rw [if_pos (by rfl)]
  go_simp
  refine hK.out _ _ (PZ.on hHeld HO.out HN.out.1 HN.out.2.1 HN.out.2.2) (fun hHeld => ?_)
  clear hK K
  try simp only [Act.put, gA, gS, gZ, sA, sZ, sS]
  refine wpAnyH_done (by kernel_rfl) ?_ _
  have H5 := Lib.hid hHeld
  clear hput' hHeld hb4 HZ HM3 H3 HO
  obtain ⟨e4, e7, hf1⟩ := H5.out.cells
  have hw := HW.out
  go_upto_region 12 with fail
  have ho := onB_setCell w5 E 4 (.int .u64 y)
  have hfr : FrL E M N w (w5.setCell ⟨E, 4, none⟩ (.int .u64 y)) := H5.out.1.onB ho (.inl rfl)
  have hl6 : LG (w5.setCell ⟨E, 4, none⟩ (.int .u64 y)) E M N (sentS p s) := by
    refine ⟨?_, HG.out.of_eq (ho.block _ HN.out.2.1.symm), H5.out.2.2.2.2.of_eq (ho.block _ (fun k => (mg_ne H5.out.2.2.2.2 H5.out.2.2.2.1) k.symm)), HN.out.2.2, ?_, HCk.out.2⟩
    · have := set_at (i := 4) (.int .u64 y) H5.out.2.2.2.1
      rw [HY.out] at this
      rw [HY.out]
      exact this
    · intro x hx
      rcases mem_ins hx with rfl | hx
      · exact sumP_ok _
      · exact HCk.out.1 x hx
  have hA : PkB (w5.setCell ⟨E, 4, none⟩ (.int .u64 y)) w.heap.size (pN p s) := (ho.block _ (by have := HEl.out.1; omega)).trans H5.out.2.1
  have hR : (w5.setCell ⟨E, 4, none⟩ (.int .u64 y)).heap[w.heap.size + 1]? = some (.cells #[.int .i64 0, .int .i64 0, .int .u64 0, .int .u64 0, .string ⟨#[]⟩] TPk (0, 0)) := (ho.block _ (by have := HEl.out.1; omega)).trans H5.out.2.2.1
  obtain ⟨w6, hw6⟩ : ∃ X, X = w5.setCell ⟨E, 4, none⟩ (.int .u64 y) := ⟨_, rfl⟩
  rw [← hw6] at hfr hl6 hA hR ⊢
  clear hw6 ho e4 e7 hf1 H5 HG hw
  have H6 := Lib.hid (And.intro hfr hl6)
  clear hfr hl6
  refine wp_region_lit ?_
  refine wpList_load_row rfl TPk _ rfl w.heap.size rfl TPk #[.int .i64 p.c, .int .i64 p.f, .int .u64 s.sn, .int .u64 p.t, .string p.d] (0, 0) _ hA Tryz.underlying33 rfl (by kernel_rfl) ?_
  refine wpList_store_rowTo rfl TPk _ _ rfl rfl (w.heap.size + 1) #[.int .i64 p.c, .int .i64 p.f, .int .u64 s.sn, .int .u64 p.t, .string p.d] rfl rfl TPk _ hR (by kernel_rfl) rfl (by kernel_rfl) ?_
  refine wpList_step (fun K hK => ?_)
  go_simp
  refine hK _ _ ?_
  clear hK K
  refine wpList_nil ?_
  have HR' := setRow_heap w6 (w.heap.size + 1) _ #[.int .i64 p.c, .int .i64 p.f, .int .u64 s.sn, .int .u64 p.t, .string p.d] TPk (0, 0) hR
  have ho := onB_setRow w6 (w.heap.size + 1) #[.int .i64 p.c, .int .i64 p.f, .int .u64 s.sn, .int .u64 p.t, .string p.d]
  have h9 : FrL E M N w (w6.setRow (w.heap.size + 1) #[.int .i64 p.c, .int .i64 p.f, .int .u64 s.sn, .int .u64 p.t, .string p.d]) := H6.out.1.onB ho (.inr (.inr (.inr (Nat.le_succ _))))
  have hl9 : LG (w6.setRow (w.heap.size + 1) #[.int .i64 p.c, .int .i64 p.f, .int .u64 s.sn, .int .u64 p.t, .string p.d]) E M N (sentS p s) := H6.out.2.of_eq (ho.block _ (by have := HEl.out.1; omega)) (ho.block _ (by have := HEl.out.2.1; omega)) (ho.block _ (by have := HEl.out.2.2; omega))
  obtain ⟨w9, hw9⟩ : ∃ X, X = w6.setRow (w.heap.size + 1) #[.int .i64 p.c, .int .i64 p.f, .int .u64 s.sn, .int .u64 p.t, .string p.d] := ⟨_, rfl⟩
  rw [← hw9] at HR' h9 hl9 ⊢
  have H9 := Lib.hid (And.intro hl9 h9)
  clear hw9 hl9 h9 hA hR ho
  go_wp2_with fail
  refine bodyPost_ret (v := .tuple #[.agg #[.int .i64 p.c, .int .i64 p.f, .int .u64 s.sn, .int .u64 p.t, .string p.d], .int .i64 0]) (res_cb Tryz.results8 _ _ (w.heap.size + 1) #[.int .i64 p.c, .int .i64 p.f, .int .u64 s.sn, .int .u64 p.t, .string p.d] rfl (run_loadVar_row w9 (w.heap.size + 1) TPk TPk #[.int .i64 p.c, .int .i64 p.f, .int .u64 s.sn, .int .u64 p.t, .string p.d] (0, 0) _ HR' Tryz.underlying33 rfl (by kernel_rfl))) rfl ⟨rfl, H9.out⟩
end Go.Proofs.YtdljphbfbiganaaGreatDoor.Lg
