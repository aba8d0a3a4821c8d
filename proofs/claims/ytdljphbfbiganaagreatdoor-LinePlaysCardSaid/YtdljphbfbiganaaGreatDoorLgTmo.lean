/- line: what an end does when a packet that it sent was not received. -/
import Derived.Test.YtdljphbfbiganaaGreatDoorTk
import Derived.Test.YtdljphbfbiganaaGreatDoorLgOpen
namespace Go.Proofs.YtdljphbfbiganaaGreatDoor.Lg
open Go Go.RowKit Packet Ln Mg
set_option linter.unusedVariables false

/-- behind the deletion -/
def PD (w : World) (p : P5) (E M N : Nat) (s : St) (W : World) : Prop := FrL E M N w W ∧ PkB W w.heap.size p ∧ W.heap[E]? = some (.cells #[.int .i64 s.ch, .int .i64 s.sd, .bool s.o, .bool s.cl, .int .u64 s.sn, .int .u64 s.rc, .int .u64 s.ak, .map (some M), .map (some N)] TLn (0, 0)) ∧ MG KS W N s.ac
section
variable {w W V : World} {E M N : Nat} {p : P5} {s : St}
theorem PD.drew (h : PD w p E M N s W) : PD w p E M N s W.drew := ⟨h.1.call (Below.refl _ _).drew, h.2.1, h.2.2.1, h.2.2.2.below (Below.refl _ _).drew⟩
theorem PD.on (h : PD w p E M N s W) (ho : OnB M W V) (hM : M < w.heap.size) (hE : E ≠ M) (hN : M ≠ N) : PD w p E M N s V :=
  ⟨h.1.onB ho (.inr (.inl rfl)), (ho.block _ (by omega)).trans h.2.1, (ho.block _ hE).trans h.2.2.1, h.2.2.2.of_eq (ho.block _ hN.symm)⟩
theorem PD.cells (h : PD w p E M N s W) : W.cell? ⟨E, 2, none⟩ = some (.bool s.o) ∧ W.cell? ⟨E, 3, none⟩ = some (.bool s.cl) ∧ W.cell? ⟨E, 6, none⟩ = some (.int .u64 s.ak) ∧ W.cell? ⟨E, 7, none⟩ = some (.map (some M)) ∧ (∀ i, W.frozen? ⟨E, i, none⟩ = false) :=
  ⟨cell_of_row W E 2 _ _ (0, 0) h.2.2.1, cell_of_row W E 3 _ _ (0, 0) h.2.2.1, cell_of_row W E 6 _ _ (0, 0) h.2.2.1, cell_of_row W E 7 _ _ (0, 0) h.2.2.1, fun i => by simp [World.frozen?, h.2.2.1]⟩
end
/-- what 'open' is known to answer -/
def OpIs (p : P5) (E M N : Nat) (s : St) (E2 M2 N2 : Nat) (s2 : St) (c : Int) : Prop := ∀ W, Sha.Tab W → LG W E M N s → LG W E2 M2 N2 s2 →
  Calls Tryz.prog 31 #[.pointer (some ⟨E, 0, none⟩), pkv p, .pointer (some ⟨E2, 0, none⟩)] W fun e w' => e = .returned (.int .i64 c) ∧ Below W.heap.size W w'
/-- the end behind it -/
def goneS (p : P5) (s : St) : St := { s with cm := del p.s s.cm }
def expS (p : P5) (s : St) : St := { s with cm := del p.s s.cm, cl := s.o }
set_option maxRecDepth 20000 in
set_option maxHeartbeats 4000000 in
theorem tmo_err {w : World} {E M N E2 M2 N2 : Nat} {s s2 : St} (p : P5) (h : Int) (hT : Sha.Tab w) (hL : LG w E M N s) (hO : LG w E2 M2 N2 s2) (c : Int) (hc : (c != 0) = true) (hop : OpIs p E M N s E2 M2 N2 s2 c) :
    Calls Tryz.prog 14 #[.pointer (some ⟨E, 0, none⟩), pkv p, .int .u64 h, .pointer (some ⟨E2, 0, none⟩)] w fun e w' => e = .returned (.int .i64 c) ∧ Below w.heap.size w w' := by
  have h0 := PO.new (p := p) hL hO
  obtain ⟨V, hV⟩ : ∃ X, X = w.alloc (.cells #[.int .i64 p.c, .int .i64 p.f, .int .u64 p.s, .int .u64 p.t, .string p.d] TPk) := ⟨_, rfl⟩
  rw [← hV] at h0
  have hop1 := hop V (Sha.tab_below hT h0.1.1) h0.1.2.2 h0.2
  have H0 := Lib.hid h0
  have HV := Lib.hid hV
  have HOp := Lib.hid hop1
  have HEl := Lib.hid (And.intro hL.lt (And.intro hL.em (And.intro hL.mn (And.intro hL.cok hL.aok))))
  have HT := Lib.hid hT
  clear h0 hV hop1 hop hL hO hT
  obtain ⟨h0, h1, h2, h3, h4, hf0⟩ := H0.out.1.2.1.cells
  go_enter Tryz.func14, Tryz.ntmps14
  go_upto_region 1 with fail
  rw [← HV.out]
  go_wp2_with fail
  refine (HOp.out).mono ?_
  rintro _ w1 ⟨rfl, b1⟩
  have H1 := Lib.hid (PO.call H0.out b1)
  clear b1 h0 h1 h2 h3 h4 hf0
  obtain ⟨h0, h1, h2, h3, h4, hf0⟩ := H1.out.1.2.1.cells
  obtain ⟨e0, e1, e2, e3, e4, e5, e6, e7, e8, hf1⟩ := H1.out.1.2.2.cells
  go_wp2
  go_ret
  exact ⟨rfl, H1.out.1.1⟩
set_option maxRecDepth 20000 in
set_option maxHeartbeats 4000000 in
theorem tmo_early {w : World} {E M N E2 M2 N2 : Nat} {s s2 : St} (p : P5) (h : Int) (hT : Sha.Tab w) (hL : LG w E M N s) (hO : LG w E2 M2 N2 s2) (hop : OpIs p E M N s E2 M2 N2 s2 0) (hlt : lateB p h = false) :
    Calls Tryz.prog 14 #[.pointer (some ⟨E, 0, none⟩), pkv p, .int .u64 h, .pointer (some ⟨E2, 0, none⟩)] w fun e w' => e = .returned (.int .i64 21) ∧ Below w.heap.size w w' := by
  have HLt := Lib.hid (fun W => hlt ▸ late_g p h W)
  clear hlt
  have h0 := PO.new (p := p) hL hO
  obtain ⟨V, hV⟩ : ∃ X, X = w.alloc (.cells #[.int .i64 p.c, .int .i64 p.f, .int .u64 p.s, .int .u64 p.t, .string p.d] TPk) := ⟨_, rfl⟩
  rw [← hV] at h0
  have hop1 := hop V (Sha.tab_below hT h0.1.1) h0.1.2.2 h0.2
  have H0 := Lib.hid h0
  have HV := Lib.hid hV
  have HOp := Lib.hid hop1
  have HEl := Lib.hid (And.intro hL.lt (And.intro hL.em (And.intro hL.mn (And.intro hL.cok hL.aok))))
  have HT := Lib.hid hT
  clear h0 hV hop1 hop hL hO hT
  obtain ⟨h0, h1, h2, h3, h4, hf0⟩ := H0.out.1.2.1.cells
  go_enter Tryz.func14, Tryz.ntmps14
  go_upto_region 1 with fail
  rw [← HV.out]
  go_wp2_with fail
  refine (HOp.out).mono ?_
  rintro _ w1 ⟨rfl, b1⟩
  have H1 := Lib.hid (PO.call H0.out b1)
  clear b1 h0 h1 h2 h3 h4 hf0
  obtain ⟨h0, h1, h2, h3, h4, hf0⟩ := H1.out.1.2.1.cells
  obtain ⟨e0, e1, e2, e3, e4, e5, e6, e7, e8, hf1⟩ := H1.out.1.2.2.cells
  go_wp2_with fail
  refine (HLt.out _).mono ?_
  rintro _ w2 ⟨rfl, b2⟩
  have H2 := Lib.hid (PO.call H1.out b2)
  clear h0 h1 h2 h3 h4 hf0 e0 e1 e2 e3 e4 e5 e6 e7 e8 hf1 b2
  obtain ⟨h0, h1, h2, h3, h4, hf0⟩ := H2.out.1.2.1.cells
  obtain ⟨e0, e1, e2, e3, e4, e5, e6, e7, e8, hf1⟩ := H2.out.1.2.2.cells
  go_wp2
  go_ret
  exact ⟨rfl, H2.out.1.1⟩
set_option maxRecDepth 20000 in
set_option maxHeartbeats 4000000 in
theorem tmo_state {w : World} {E M N E2 M2 N2 : Nat} {s s2 : St} (p : P5) (h : Int) (hT : Sha.Tab w) (hL : LG w E M N s) (hO : LG w E2 M2 N2 s2) (hop : OpIs p E M N s E2 M2 N2 s2 0) (hlt : lateB p h = true) (hk : (lk p.s s2.ac).isSome = true) :
    Calls Tryz.prog 14 #[.pointer (some ⟨E, 0, none⟩), pkv p, .int .u64 h, .pointer (some ⟨E2, 0, none⟩)] w fun e w' => e = .returned (.int .i64 10) ∧ Below w.heap.size w w' := by
  have HLt := Lib.hid (fun W => hlt ▸ late_g p h W)
  clear hlt
  have HRc := Lib.hid (fun W (hW : LG W E2 M2 N2 s2) => hk ▸ received_g p.s hW)
  clear hk
  have h0 := PO.new (p := p) hL hO
  obtain ⟨V, hV⟩ : ∃ X, X = w.alloc (.cells #[.int .i64 p.c, .int .i64 p.f, .int .u64 p.s, .int .u64 p.t, .string p.d] TPk) := ⟨_, rfl⟩
  rw [← hV] at h0
  have hop1 := hop V (Sha.tab_below hT h0.1.1) h0.1.2.2 h0.2
  have H0 := Lib.hid h0
  have HV := Lib.hid hV
  have HOp := Lib.hid hop1
  have HEl := Lib.hid (And.intro hL.lt (And.intro hL.em (And.intro hL.mn (And.intro hL.cok hL.aok))))
  have HT := Lib.hid hT
  clear h0 hV hop1 hop hL hO hT
  obtain ⟨h0, h1, h2, h3, h4, hf0⟩ := H0.out.1.2.1.cells
  go_enter Tryz.func14, Tryz.ntmps14
  go_upto_region 1 with fail
  rw [← HV.out]
  go_wp2_with fail
  refine (HOp.out).mono ?_
  rintro _ w1 ⟨rfl, b1⟩
  have H1 := Lib.hid (PO.call H0.out b1)
  clear b1 h0 h1 h2 h3 h4 hf0
  obtain ⟨h0, h1, h2, h3, h4, hf0⟩ := H1.out.1.2.1.cells
  obtain ⟨e0, e1, e2, e3, e4, e5, e6, e7, e8, hf1⟩ := H1.out.1.2.2.cells
  go_wp2_with fail
  refine (HLt.out _).mono ?_
  rintro _ w2 ⟨rfl, b2⟩
  have H2 := Lib.hid (PO.call H1.out b2)
  clear h0 h1 h2 h3 h4 hf0 e0 e1 e2 e3 e4 e5 e6 e7 e8 hf1 b2
  obtain ⟨h0, h1, h2, h3, h4, hf0⟩ := H2.out.1.2.1.cells
  obtain ⟨e0, e1, e2, e3, e4, e5, e6, e7, e8, hf1⟩ := H2.out.1.2.2.cells
  go_wp2_with fail
  refine (HRc.out _ H2.out.2).mono ?_
  rintro _ w3 ⟨rfl, b3⟩
  have H3 := Lib.hid (PO.call H2.out b3)
  clear h0 h1 h2 h3 h4 hf0 e0 e1 e2 e3 e4 e5 e6 e7 e8 hf1 b3
  obtain ⟨h0, h1, h2, h3, h4, hf0⟩ := H3.out.1.2.1.cells
  obtain ⟨e0, e1, e2, e3, e4, e5, e6, e7, e8, hf1⟩ := H3.out.1.2.2.cells
  go_wp2
  go_ret
  exact ⟨rfl, H3.out.1.1⟩
set_option maxRecDepth 20000 in
set_option maxHeartbeats 4000000 in
theorem tmo_ok {w : World} {E M N E2 M2 N2 : Nat} {s s2 : St} (p : P5) (h : Int) (hT : Sha.Tab w) (hL : LG w E M N s) (hO : LG w E2 M2 N2 s2) (hop : OpIs p E M N s E2 M2 N2 s2 0) (hlt : lateB p h = true) (hk : (lk p.s s2.ac).isSome = false) :
    Calls Tryz.prog 14 #[.pointer (some ⟨E, 0, none⟩), pkv p, .int .u64 h, .pointer (some ⟨E2, 0, none⟩)] w fun e w' => e = .returned (.int .i64 0) ∧ LG w' E M N (expS p s) ∧ FrL E M N w w' := by
  have HLt := Lib.hid (fun W => hlt ▸ late_g p h W)
  clear hlt
  have HRc := Lib.hid (fun W (hW : LG W E2 M2 N2 s2) => hk ▸ received_g p.s hW)
  clear hk
  have h0 := PO.new (p := p) hL hO
  obtain ⟨V, hV⟩ : ∃ X, X = w.alloc (.cells #[.int .i64 p.c, .int .i64 p.f, .int .u64 p.s, .int .u64 p.t, .string p.d] TPk) := ⟨_, rfl⟩
  rw [← hV] at h0
  have hop1 := hop V (Sha.tab_below hT h0.1.1) h0.1.2.2 h0.2
  have H0 := Lib.hid h0
  have HV := Lib.hid hV
  have HOp := Lib.hid hop1
  have HEl := Lib.hid (And.intro hL.lt (And.intro hL.em (And.intro hL.mn (And.intro hL.cok hL.aok))))
  have HT := Lib.hid hT
  clear h0 hV hop1 hop hL hO hT
  obtain ⟨h0, h1, h2, h3, h4, hf0⟩ := H0.out.1.2.1.cells
  go_enter Tryz.func14, Tryz.ntmps14
  go_upto_region 1 with fail
  rw [← HV.out]
  go_wp2_with fail
  refine (HOp.out).mono ?_
  rintro _ w1 ⟨rfl, b1⟩
  have H1 := Lib.hid (PO.call H0.out b1)
  clear b1 h0 h1 h2 h3 h4 hf0
  obtain ⟨h0, h1, h2, h3, h4, hf0⟩ := H1.out.1.2.1.cells
  obtain ⟨e0, e1, e2, e3, e4, e5, e6, e7, e8, hf1⟩ := H1.out.1.2.2.cells
  go_wp2_with fail
  refine (HLt.out _).mono ?_
  rintro _ w2 ⟨rfl, b2⟩
  have H2 := Lib.hid (PO.call H1.out b2)
  clear h0 h1 h2 h3 h4 hf0 e0 e1 e2 e3 e4 e5 e6 e7 e8 hf1 b2
  obtain ⟨h0, h1, h2, h3, h4, hf0⟩ := H2.out.1.2.1.cells
  obtain ⟨e0, e1, e2, e3, e4, e5, e6, e7, e8, hf1⟩ := H2.out.1.2.2.cells
  go_wp2_with fail
  refine (HRc.out _ H2.out.2).mono ?_
  rintro _ w3 ⟨rfl, b3⟩
  have H3 := Lib.hid (PO.call H2.out b3)
  clear h0 h1 h2 h3 h4 hf0 e0 e1 e2 e3 e4 e5 e6 e7 e8 hf1 b3
  obtain ⟨h0, h1, h2, h3, h4, hf0⟩ := H3.out.1.2.1.cells
  obtain ⟨e0, e1, e2, e3, e4, e5, e6, e7, e8, hf1⟩ := H3.out.1.2.2.cells
  go_upto_region 8 with fail
  obtain ⟨wd, hdel, hmg, hon⟩ := del_run ks_ok ⟨#[]⟩ p.s M s.cm 0 w3.drew ((H3.out.1.2.2).com.below (Below.refl _ _).drew)
  have hdel' : (Builtin.delete_ #[TMp, 31] 0 #[.map (some M), .int .u64 p.s]).run Tryz.prog w3.drew = .ok (.tuple #[]) wd := hdel
  have HG := Lib.hid hmg
  have HO := Lib.hid hon
  have HZ : Hid (PD w p E M N s w3) := Lib.hid ⟨FrL.of_below H3.out.1.1, H3.out.1.2.1, H3.out.1.2.2.box, H3.out.1.2.2.ack⟩
  clear hdel hmg hon h0 h1 h2 h3 h4 hf0 e0 e1 e2 e3 e4 e5 e6 e7 e8 hf1
  refine wp_region_held_drew (S := PD w p E M N s) (by kernel_rfl) (PD.drew HZ.out) (fun hHeld => ?_)
  refine tk (i := 0) (v := ?_) rfl (by kernel_rfl) (fun _ _ _ h => h) (by rfl) ?_ (by assumption) ?_
  rotate_left
  · (intro W hSw; have hz := hSw.2.1.cells; obtain ⟨e2, e3, e6, e7, hf1⟩ := hSw.cells; go_simp; try with_reducible rfl)
  try simp only [Act.put, gA, gZ, sA, sZ, sS]
  refine tk (i := 1) (v := ?_) rfl (by kernel_rfl) (fun _ _ _ h => h) (by rfl) ?_ (by assumption) ?_
  rotate_left
  · (intro W hSw; have hz := hSw.2.1.cells; obtain ⟨e2, e3, e6, e7, hf1⟩ := hSw.cells; go_simp; try with_reducible rfl)
  try simp only [Act.put, gA, gS, gZ, sA, sZ, sS]
  refine tk (i := 2) (v := ?_) rfl (by kernel_rfl) (fun _ _ _ h => h) (by rfl) ?_ (by assumption) ?_
  rotate_left
  · (intro W hSw; have hz := hSw.2.1.cells; obtain ⟨e2, e3, e6, e7, hf1⟩ := hSw.cells; go_simp; try with_reducible rfl)
  try simp only [Act.put, gA, gS, gZ, sA, sZ, sS]
  refine tk (i := 3) (v := ?_) rfl (by kernel_rfl) (fun _ _ _ h => h) (by rfl) ?_ (by assumption) ?_
  rotate_left
  · (intro W hSw; have hz := hSw.2.1.cells; obtain ⟨e2, e3, e6, e7, hf1⟩ := hSw.cells; go_simp; try with_reducible rfl)
  try simp only [Act.put, gA, gS, gZ, sA, sZ, sS]
  refine tk (i := 4) (v := ?_) rfl (by kernel_rfl) (fun _ _ _ h => h) (by rfl) ?_ (by assumption) ?_
  rotate_left
  · (intro W hSw; have hz := hSw.2.1.cells; obtain ⟨e2, e3, e6, e7, hf1⟩ := hSw.cells; go_simp; try with_reducible rfl)
  try simp only [Act.put, gA, gS, gZ, sA, sZ, sS]
  refine tk (i := 5) (v := ?_) rfl (by kernel_rfl) (fun _ _ _ h => h) (by rfl) ?_ (by assumption) ?_
  rotate_left
  · (intro W hSw; have hz := hSw.2.1.cells; obtain ⟨e2, e3, e6, e7, hf1⟩ := hSw.cells; go_simp; try with_reducible rfl)
  try simp only [Act.put, gA, gS, gZ, sA, sZ, sS]
  refine wpAnyH_ready (rs := [6]) (by kernel_rfl) (by simp) ?_
  refine AllReadyH.cons rfl (fun K hK => ?_) AllReadyH.nil
  simp only [gA, gS, gZ]
  rw [if_pos (by rfl)]
  go_simp
  refine hK.out _ _ (PD.on hHeld HO.out HEl.out.1.2.1 HEl.out.2.1 HEl.out.2.2.1) (fun hHeld => ?_)
  clear hK K
  try simp only [Act.put, gA, gS, gZ, sA, sZ, sS]
  refine wpAnyH_done (by kernel_rfl) ?_ _
  have H5 := Lib.hid hHeld
  clear hdel' hHeld HZ
  obtain ⟨e2, e3, e6, e7, hf1⟩ := H5.out.cells
  have ho := onB_setCell wd E 3 (.bool s.o)
  have hfr : FrL E M N w (wd.setCell ⟨E, 3, none⟩ (.bool s.o)) := H5.out.1.onB ho (.inl rfl)
  have hl6 : LG (wd.setCell ⟨E, 3, none⟩ (.bool s.o)) E M N (expS p s) :=
    ⟨set_at (i := 3) (.bool s.o) H5.out.2.2.1, HG.out.of_eq (ho.block _ HEl.out.2.1.symm), H5.out.2.2.2.of_eq (ho.block _ (fun k => (mg_ne H5.out.2.2.2 H5.out.2.2.1) k.symm)), HEl.out.2.2.1, fun x hx => HEl.out.2.2.2.1 x (mem_del hx), HEl.out.2.2.2.2⟩
  have H6 := Lib.hid (And.intro hl6 hfr)
  clear ho hfr hl6
  go_wp2
  go_ret
  exact ⟨rfl, H6.out⟩
end Go.Proofs.YtdljphbfbiganaaGreatDoor.Lg
