/- The page's line: a packet is sent; an end is made. -/
import Derived.Test.YtdljphbfbiganaaGreatDoorTk
import Derived.Test.YtdljphbfbiganaaGreatDoorPlRecv
import Derived.Test.YtdljphbfbiganaaGreatDoorPlSend
namespace Go.Proofs.YtdljphbfbiganaaGreatDoor.Pl
open Go Go.RowKit Packet Mg Lg Ln
set_option linter.unusedVariables false

section
variable {b0 b1 : Nat} {V W : World} {B b : Nat} {oc oa : Option Nat} {p : P5} {s : St} {L : List (Int × Array Value)} {Ac Aa : Option Addr} {mc cc ma ca : Nat}
theorem pk_grown {A9 : Option Addr} {m9 c9 : Nat} (h : PkB V b p) (hr : OwnT b1 V A9 m9 c9 L) (hg : V.grownBy W (Value.slice A9 m9 c9).ownBlock) : PkB W b p := by
  refine (hg.block _ (lt_of h) fun e => ?_).trans h
  obtain ⟨cur, hc⟩ := own_cellT hr b e.symm
  unfold PkB at h
  rw [h] at hc
  injection hc with hc
  injection hc with _ hc
  exact absurd hc (by decide)
theorem pk_setB {cs : Array Value} {q : Nat × Nat} (h : PkB V b p) (hb : V.heap[B]? = some (.cells cs TRl q)) (i : Nat) (v : Value) : PkB (V.setCell ⟨B, i, none⟩ v) b p := by
  refine ((onB_setCell V B i v).block b fun e => ?_).trans h
  unfold PkB at h
  rw [e, hb] at h
  injection h with h
  injection h with _ h
  exact absurd h (by decide)
theorem FP.setRow (h : FP B oc oa V W) (hb : V.heap.size ≤ b) (cs : Array Value) : FP B oc oa V (W.setRow b cs) :=
  have ho := onB_setRow W b cs
  ⟨ho.os.trans h.os, ho.tape.trans h.tape, ho.output.trans h.output, by rw [ho.size]; exact h.size, fun k hk h1 h2 h3 => (ho.block k (by omega)).trans (h.block k hk h1 h2 h3)⟩
theorem FP.setBox (h : FP B oc oa V W) (hb : V.heap.size ≤ b) (i : Nat) (v : Value) : FP B oc oa V (W.setCell ⟨b, i, none⟩ v) :=
  have ho := onB_setCell W b i v
  ⟨ho.os.trans h.os, ho.tape.trans h.tape, ho.output.trans h.output, by rw [ho.size]; exact h.size, fun k hk h1 h2 h3 => (ho.block k (by omega)).trans (h.block k hk h1 h2 h3)⟩
theorem PN.ofB (h : PN b0 W B s Ac mc cc Aa ma ca) (hp : PkB W b p) (ho : OnB b W V) : PN b0 V B s Ac mc cc Aa ma ca := by
  refine h.of_eq fun k cs t q hk hor => ho.block k fun e => ?_
  unfold PkB at hp
  rw [e, hp] at hk
  injection hk with hk
  injection hk with _ hk
  rcases hor with h1 | h1
  · have hb := h.box
    rw [← h1, e, hp] at hb
    injection hb with hb
    injection hb with _ hb
    exact absurd hb (by decide)
  · rw [h1] at hk; exact absurd hk (by decide)
end
set_option maxRecDepth 20000 in
set_option maxHeartbeats 4000000 in
theorem psent_ok {w : World} {b0 B : Nat} {s : St} {Ac Aa : Option Addr} {mc cc ma ca : Nat} (p : P5) (h : Int) (hL : PN b0 w B s Ac mc cc Aa ma ca) (hb0 : b0 ≤ w.heap.size) (hm : s.cm.length ≤ 1000000) (hp : p.ok) (hno : Mg.lk s.sn s.cm = none) (hn0 : 0 ≤ s.sn) (hn1 : s.sn < 18446744073709551615) (hfb : fitG s p s.sd = true) (hs : (p.s != 0) = false) (hcl : s.cl = false) (hlt : lateB p h = false) :
    Calls Tryz.prog 9 #[.pointer (some ⟨B, 0, none⟩), pkv p, .int .u64 h] w fun e w' => e = .returned (.tuple #[.agg #[.int .i64 p.c, .int .i64 p.f, .int .u64 s.sn, .int .u64 p.t, .string p.d], .int .i64 0]) ∧ PX b0 B (Value.slice Ac mc cc).ownBlock (Value.slice Aa ma ca).ownBlock w (sentS p s) w' := by
  have hr : p.right := ((fitG_iff s p s.sd).1 hfb).1
  have hSu := rsum_g (pN p s) hr ⟨hn0, (by show s.sn < 18446744073709551616; omega), hp.2.2.1, hp.2.2.2.1, hp.2.2.2.2⟩
  obtain ⟨D, hDd⟩ : ∃ D, D = sumP (pN p s) := ⟨_, rfl⟩
  rw [← hDd] at hSu
  have HDk : Hid (SumOk D) := Lib.hid (by rw [hDd]; exact sumP_ok _)
  have HDd := Lib.hid hDd
  have HSu := Lib.hid hSu
  obtain ⟨y, hy⟩ : ∃ y, y = s.sn + 1 := ⟨_, rfl⟩
  have hw : IntKind.u64.wrap (s.sn + 1) = y := by rw [hy]; exact IntWalk.u64_in _ ⟨by omega, by omega⟩
  have hne : (s.sn == 18446744073709551615) = false := by simpa using (by omega : ¬ s.sn = 18446744073709551615)
  have HY := Lib.hid hy
  have HW := Lib.hid hw
  have HNe := Lib.hid hne
  have HNo := Lib.hid hno
  have HB0 := Lib.hid hb0
  have HBl := Lib.hid hL.lt
  have HMs := Lib.hid hm
  have ht := hp.2.2.1
  have HLt := Lib.hid (fun W => hlt ▸ plate_any p h W ht)
  clear hlt ht hr hSu hDd hy hw hne hno hb0 hm hp hn0 hn1
  have HF := Lib.hid (fun W (hW : PN b0 W B s Ac mc cc Aa ma ca) => hfb ▸ ours_g p s.sd hW)
  have H0 := Lib.hid (QS.new (p := p) hL)
  clear hfb hL
  go_enter Tryz.func9, Tryz.ntmps9
  go_upto_region 1 with fail
  refine wp_region_held_drew (S := QS w p b0 B s Ac mc cc Aa ma ca) (by kernel_rfl) (QS.drew H0.out) (fun hHeld => ?_)
  refine tk (i := 0) (v := ?_) rfl (by kernel_rfl) (fun _ _ _ h => h) (by rfl) ?_ (by assumption) ?_
  rotate_left
  · (intro W hSw; have hz := hSw.1.2.1.cells; have hy := hSw.1.2.2.cells; go_simp; try with_reducible rfl)
  try simp only [Act.put, gA, gZ, sA, sZ, sS]
  refine tk (i := 1) (v := ?_) rfl (by kernel_rfl) (fun _ _ _ h => h) (by rfl) ?_ (by assumption) ?_
  rotate_left
  · (intro W hSw; have hz := hSw.1.2.1.cells; have hy := hSw.1.2.2.cells; go_simp; try with_reducible rfl)
  try simp only [Act.put, gA, gS, gZ, sA, sZ, sS]
  refine tk (i := 2) (v := ?_) rfl (by kernel_rfl) (fun _ _ _ h => h) (by rfl) ?_ (by assumption) ?_
  rotate_left
  · (intro W hSw; have hz := hSw.1.2.1.cells; have hy := hSw.1.2.2.cells; go_simp; try with_reducible rfl)
  try simp only [Act.put, gA, gS, gZ, sA, sZ, sS]
  refine tk (i := 3) (v := ?_) rfl (by kernel_rfl) (fun _ _ _ h => h) (by rfl) ?_ (by assumption) ?_
  rotate_left
  · (intro W hSw; have hz := hSw.1.2.1.cells; have hy := hSw.1.2.2.cells; go_simp; try with_reducible rfl)
  try simp only [Act.put, gA, gS, gZ, sA, sZ, sS]
  refine tk (i := 4) (v := ?_) rfl (by kernel_rfl) (fun _ _ _ h => h) (by rfl) ?_ (by assumption) ?_
  rotate_left
  · (intro W hSw; have hz := hSw.1.2.1.cells; have hy := hSw.1.2.2.cells; go_simp; try with_reducible rfl)
  try simp only [Act.put, gA, gS, gZ, sA, sZ, sS]
  refine tk (i := 5) (v := ?_) rfl (by kernel_rfl) (fun _ _ _ h => h) (by rfl) ?_ (by assumption) ?_
  rotate_left
  · (intro W hSw; have hz := hSw.1.2.1.cells; have hy := hSw.1.2.2.cells; go_simp; try with_reducible rfl)
  try simp only [Act.put, gA, gS, gZ, sA, sZ, sS]
  refine wpAnyH_ready (rs := [6]) (by kernel_rfl) (by simp) ?_
  refine AllReadyH.cons rfl (fun K hK => ?_) AllReadyH.nil
  simp only [gA, gS, gZ]
  rw [if_pos (by rfl)]
  go_simp
  (refine (HF.out _ hHeld.1.2.2).mono ?_; rintro e w1 ⟨rfl, hb1⟩)
  go_wp2_with fail
  refine hK.out _ _ (QS.call hHeld hb1) (fun hHeld => ?_)
  clear hK K
  try simp only [Act.put, gA, gS, gZ, sA, sZ, sS]
  refine tk (i := 7) (v := ?_) rfl (by kernel_rfl) (fun _ _ _ h => h) (by rfl) ?_ (by assumption) ?_
  rotate_left
  · (intro W hSw; have hz := hSw.1.2.1.cells; have hy := hSw.1.2.2.cells; go_simp; try with_reducible rfl)
  try simp only [Act.put, gA, gS, gZ, sA, sZ, sS]
  refine tk (i := 8) (v := ?_) rfl (by kernel_rfl) (fun _ _ _ h => h) (by rfl) ?_ (by assumption) ?_
  rotate_left
  · (intro W hSw; have hz := hSw.1.2.1.cells; have hy := hSw.1.2.2.cells; go_simp; try with_reducible rfl)
  try simp only [Act.put, gA, gS, gZ, sA, sZ, sS]
  refine tk (i := 9) (v := ?_) rfl (by kernel_rfl) (fun _ _ _ h => h) (by rfl) ?_ (by assumption) ?_
  rotate_left
  · (intro W hSw; have hz := hSw.1.2.1.cells; have hy := hSw.1.2.2.cells; go_simp; try with_reducible rfl)
  try simp only [Act.put, gA, gS, gZ, sA, sZ, sS]
  refine tk (i := 10) (v := ?_) rfl (by kernel_rfl) (fun _ _ _ h => h) (by rfl) ?_ (by assumption) ?_
  rotate_left
  · (intro W hSw; have hz := hSw.1.2.1.cells; have hy := hSw.1.2.2.cells; go_simp; try with_reducible rfl)
  try simp only [Act.put, gA, gS, gZ, sA, sZ, sS]
  refine tk (i := 11) (v := ?_) rfl (by kernel_rfl) (fun _ _ _ h => h) (by rfl) ?_ (by assumption) ?_
  rotate_left
  · (intro W hSw; have hz := hSw.1.2.1.cells; have hy := hSw.1.2.2.cells; go_simp; try with_reducible rfl)
  try simp only [Act.put, gA, gS, gZ, sA, sZ, sS]
  refine tk (i := 12) (v := ?_) rfl (by kernel_rfl) (fun _ _ _ h => h) (by rfl) ?_ (by assumption) ?_
  rotate_left
  · (intro W hSw; have hz := hSw.1.2.1.cells; have hy := hSw.1.2.2.cells; go_simp; try with_reducible rfl)
  try simp only [Act.put, gA, gS, gZ, sA, sZ, sS]
  refine wpAnyH_done (by kernel_rfl) ?_ _
  have H1 := Lib.hid hHeld
  clear hHeld H0
  obtain ⟨h0, h1, h2, h3, h4, hf0⟩ := H1.out.1.2.1.cells
  obtain ⟨e0, e1, e2, e3, e4, e5, e6, e7, e8, hf1⟩ := H1.out.1.2.2.cells
  go_wp2_with fail
  refine (HLt.out _).mono ?_
  rintro _ w2 ⟨rfl, hb2⟩
  have H2 := Lib.hid (QS.call H1.out hb2)
  clear h0 h1 h2 h3 h4 hf0 e0 e1 e2 e3 e4 e5 e6 e7 e8 hf1 H1 hb2
  obtain ⟨h0, h1, h2, h3, h4, hf0⟩ := H2.out.1.2.1.cells
  obtain ⟨e0, e1, e2, e3, e4, e5, e6, e7, e8, hf1⟩ := H2.out.1.2.2.cells
  have hne := HNe.out
  have hw := HW.out
  obtain ⟨s1, hs1⟩ : ∃ s1, s1 = { s with sn := y } := ⟨_, rfl⟩
  go_upto_region 11 with fail
  clear hne hw h0 h1 h2 h3 h4 hf0 e0 e1 e2 e3 e4 e5 e6 e7 e8 hf1
  have ho := onB_setCell w2 w.heap.size 2 (.int .u64 s.sn)
  have gA : PkB (w2.setCell ⟨w.heap.size, 2, none⟩ (.int .u64 s.sn)) w.heap.size (pN p s) := set_at _ H2.out.1.2.1
  have gP := H2.out.1.2.2.ofB H2.out.1.2.1 ho
  have gZ : PkB (w2.setCell ⟨w.heap.size, 2, none⟩ (.int .u64 s.sn)) (w.heap.size + 1) ⟨0, 0, 0, 0, ⟨#[]⟩⟩ := (ho.block _ (by omega)).trans H2.out.2
  have gF := (FP.of_below (B := B) (oc := (Value.slice Ac mc cc).ownBlock) (oa := (Value.slice Aa ma ca).ownBlock) H2.out.1.1).setBox (b := w.heap.size) (Nat.le_refl _) 2 (.int .u64 s.sn)
  have gQ := gP.sent y
  have gB := pk_setB gA gP.box 4 (.int .u64 y)
  have gC := pk_setB gZ gP.box 4 (.int .u64 y)
  have gG := gF.set 4 (.int .u64 y)
  rw [← hs1] at gQ
  have HM : Hid (s1.cm.length ≤ 1000000) := Lib.hid (by rw [hs1]; exact HMs.out)
  have HS1 := Lib.hid hs1
  have H3 := Lib.hid (And.intro gQ (And.intro gB gG))
  have HZ2 := Lib.hid gC
  obtain ⟨w8, hw8⟩ : ∃ X, X = (w2.setCell ⟨w.heap.size, 2, none⟩ (.int .u64 s.sn)).setCell ⟨B, 4, none⟩ (.int .u64 y) := ⟨_, rfl⟩
  rw [← hw8] at H3 HZ2 ⊢
  clear hw8 hs1 ho gA gP gZ gF gQ gB gC gG H2
  obtain ⟨i0, hi', hz0, hz1, hz2⟩ := info_partsT infoNt
  have HInf := Lib.hid (And.intro hi' (And.intro hz0 (And.intro hz1 hz2)))
  clear hi' hz0 hz1 hz2
  refine wp_region_last (S := SB B s1 Ac mc cc Aa ma ca w.heap.size (pN p s)) 14 (by kernel_rfl) ?_
  have HD : Hid (PN b0 w8.drew B s1 Ac mc cc Aa ma ca ∧ PkB w8.drew w.heap.size (pN p s) ∧ FP B (Value.slice Ac mc cc).ownBlock (Value.slice Aa ma ca).ownBlock w w8.drew) := Lib.hid ⟨(H3.out.1).below (Below.refl _ _).drew, H3.out.2.1, H3.out.2.2.call (Below.refl _ _).drew⟩
  have hz3 : PkB w8.drew (w.heap.size + 1) ⟨0, 0, 0, 0, ⟨#[]⟩⟩ := HZ2.out
  obtain ⟨w3, hw3⟩ : ∃ X, X = w8.drew := ⟨_, rfl⟩
  rw [← hw3] at HD hz3 ⊢
  clear hw3
  have hHeld := HD.out.1.sb HD.out.2.1
  refine wpL_take (i := 0) (oi := _) (v := ?_) [13, 12] rfl (by kernel_rfl) (by kernel_rfl) (by kernel_rfl) (by kernel_rfl) (by kernel_rfl) (fun _ _ _ h => h) (Or.inl ⟨by rfl, ?_⟩) (by assumption) ?_
  rotate_left
  · (intro V hSw; have hz := hSw.2.cells; have hy := hSw.cells; go_simp; try with_reducible rfl)
  try simp only [Act.put, gA, gZ, sA, sZ, sS]
  refine wpL_take (i := 1) (oi := _) (v := ?_) [11, 4, 3, 2] rfl (by kernel_rfl) (by kernel_rfl) (by kernel_rfl) (by kernel_rfl) (by kernel_rfl) (fun _ _ _ h => h) (Or.inl ⟨by rfl, ?_⟩) (by assumption) ?_
  rotate_left
  · (intro V hSw; have hz := hSw.2.cells; have hy := hSw.cells; go_simp; try with_reducible rfl)
  try simp only [Act.put, gA, gS, gZ, sA, sZ, sS]
  refine wpL_take (i := 2) (oi := _) (v := ?_) [11, 4, 3] rfl (by kernel_rfl) (by kernel_rfl) (by kernel_rfl) (by kernel_rfl) (by kernel_rfl) (fun _ _ _ h => h) (Or.inl ⟨by rfl, ?_⟩) (by assumption) ?_
  rotate_left
  · (intro V hSw; have hz := hSw.2.cells; have hy := hSw.cells; go_simp; try with_reducible rfl)
  try simp only [Act.put, gA, gS, gZ, sA, sZ, sS]
  refine wpL_take (i := 3) (oi := _) (v := ?_) [11, 4] rfl (by kernel_rfl) (by kernel_rfl) (by kernel_rfl) (by kernel_rfl) (by kernel_rfl) (fun _ _ _ h => h) (Or.inl ⟨by rfl, ?_⟩) (by assumption) ?_
  rotate_left
  · (intro V hSw; have hz := hSw.2.cells; have hy := hSw.cells; go_simp; try with_reducible rfl)
  try simp only [Act.put, gA, gS, gZ, sA, sZ, sS]
  refine wpL_take (i := 4) (oi := _) (v := ?_) [11] rfl (by kernel_rfl) (by kernel_rfl) (by kernel_rfl) (by kernel_rfl) (by kernel_rfl) (fun _ _ _ h => h) (Or.inl ⟨by rfl, ?_⟩) (by assumption) ?_
  rotate_left
  · (intro V hSw; have hz := hSw.2.cells; have hy := hSw.cells; go_simp; try with_reducible rfl)
  try simp only [Act.put, gA, gS, gZ, sA, sZ, sS]
  refine wpL_take (i := 5) (oi := _) (v := ?_) [11, 10, 9, 6] rfl (by kernel_rfl) (by kernel_rfl) (by kernel_rfl) (by kernel_rfl) (by kernel_rfl) (fun _ _ _ h => h) (Or.inl ⟨by rfl, ?_⟩) (by assumption) ?_
  rotate_left
  · (intro V hSw; have hz := hSw.2.cells; have hy := hSw.cells; go_simp; try with_reducible rfl)
  try simp only [Act.put, gA, gS, gZ, sA, sZ, sS]
  refine wpL_take (i := 6) (oi := _) (v := ?_) [11, 10, 9] rfl (by kernel_rfl) (by kernel_rfl) (by kernel_rfl) (by kernel_rfl) (by kernel_rfl) (fun _ _ _ h => h) (Or.inl ⟨by rfl, ?_⟩) (by assumption) ?_
  rotate_left
  · (intro V hSw; have hz := hSw.2.cells; have hy := hSw.cells; go_simp; try with_reducible rfl)
  try simp only [Act.put, gA, gS, gZ, sA, sZ, sS]
  refine wpL_take (i := 7) (oi := _) (v := ?_) [11, 10, 9, 8] rfl (by kernel_rfl) (by kernel_rfl) (by kernel_rfl) (by kernel_rfl) (by kernel_rfl) (fun _ _ _ h => h) (Or.inl ⟨by rfl, ?_⟩) (by assumption) ?_
  rotate_left
  · (intro V hSw; have hz := hSw.2.cells; have hy := hSw.cells; go_simp; try with_reducible rfl)
  try simp only [Act.put, gA, gS, gZ, sA, sZ, sS]
  refine wpL_ready (rs := [8]) (by kernel_rfl) (by simp) ?_
  refine AllL.cons rfl (fun K hK => ?_) AllL.nil
  simp only [gA, gS, gZ]
  rw [if_pos (by rfl)]
  go_simp
  refine (HSu.out _).mono ?_
  rintro e w4 ⟨rfl, hb4⟩
  have hs4 := hHeld.below hb4
  have H4 : Hid (PN b0 w4 B s1 Ac mc cc Aa ma ca ∧ FP B (Value.slice Ac mc cc).ownBlock (Value.slice Aa ma ca).ownBlock w w4) := Lib.hid ⟨HD.out.1.below hb4, HD.out.2.2.call hb4⟩
  have HW34 := Lib.hid hb4.size
  have HZ4 := Lib.hid (PkB.below hz3 hb4)
  clear hz3
  clear hb4 hHeld
  go_wp2_with fail
  refine hK.out _ _ (Or.inr hs4) ?_
  clear hK K
  try simp only [Act.put, gA, gS, gZ, sA, sZ, sS]
  have hHeld := hs4
  refine wpL_take (i := 9) (oi := _) (v := ?_) [11, 10] rfl (by kernel_rfl) (by kernel_rfl) (by kernel_rfl) (by kernel_rfl) (by kernel_rfl) (fun _ _ _ h => h) (Or.inl ⟨by rfl, ?_⟩) (by assumption) ?_
  rotate_left
  · (intro V hSw; (refine yields_bld (n := s.sn) (C := D) (.tmp 56) (.tmp 58) ?_ ?_ ?_ HDk.out); rfl; rfl; rfl)
  try simp only [Act.put, gA, gS, gZ, sA, sZ, sS]
  refine wpL_ready (rs := [10]) (by kernel_rfl) (by simp) ?_
  refine AllL.cons rfl (fun K hK => ?_) AllL.nil
  simp only [gA, gS, gZ]
  rw [if_pos (by rfl)]
  refine wp_bsl (q := (s.sn, D)) _ rfl rfl HDk.out ?_
  have hbl := (Below.refl w4.heap.size w4).alloc (Nat.le_refl _) (.cells (ncl (s.sn, D)) TNt)
  have hs5 := hHeld.below hbl
  have H5 : Hid (PN b0 (w4.alloc (.cells (ncl (s.sn, D)) TNt)) B s1 Ac mc cc Aa ma ca ∧ FP B (Value.slice Ac mc cc).ownBlock (Value.slice Aa ma ca).ownBlock w (w4.alloc (.cells (ncl (s.sn, D)) TNt))) := Lib.hid ⟨H4.out.1.below hbl, H4.out.2.call hbl⟩
  have HS5 := Lib.hid hs5
  have HZ5 := Lib.hid (PkB.below HZ4.out hbl)
  clear hHeld hs4 hbl
  refine hK.out _ _ (Or.inr hs5) ?_
  clear hK K hs5
  try simp only [Act.put, sA, sZ, sS]
  have hrow := H5.out.1.rc.1
  rw [← H5.out.1.rc.2] at hrow
  have HRo := Lib.hid hrow
  have hbd : mc ≤ 1000000 := by have := H5.out.1.rc.2; have := HM.out; omega
  have HBd := Lib.hid hbd
  have HSz := Lib.hid (Nat.le_trans HB0.out H5.out.2.size)
  clear hrow hbd
  refine wpL_ready (rs := [11]) (by kernel_rfl) (by simp) ?_
  refine AllL.cons rfl (fun K hK => ?_) AllL.nil
  simp only [gA, gS, gZ]
  rw [if_pos (by rfl)]
  refine wp_append_lies _ _ _ 52 rfl b0 TNt i0 _ 33 40 Tryz.underlying52 HInf.out.1 HInf.out.2.1 HInf.out.2.2.1 HInf.out.2.2.2 rfl (by decide) _ _ _ rfl HRo.out ⟨w4.heap.size, 0, none⟩ 1 1 (ncl (s.sn, D)).toList rfl (len_nt (s.sn, D) HDk.out) (news_nt w4 (s.sn, D) HDk.out) (ones_nt (s.sn, D) HDk.out) (by decide) (by have := HBd.out; unfold maxLen; omega) (by have := HBd.out; omega) HSz.out _ rfl ?_
  intro g cap1 w6 hown hgr hat _
  have HZ6 := Lib.hid (pk_grown HZ5.out H5.out.1.rc hgr)
  have hs6 := HS5.out.grown H5.out.1.rc hgr
  rw [H5.out.1.rc.2, ← nct_snoc] at hown
  have H6 := Lib.hid (And.intro hs6 (And.intro hown (And.intro hgr hat)))
  clear hown hgr hat
  refine hK.out _ _ (Or.inr hs6) ?_
  clear hK K
  try simp only [Act.put, sA, sZ, sS]
  have hHeld := hs6
  refine wpL_take (i := 12) (oi := _) (v := ?_) [13] rfl (by kernel_rfl) (by kernel_rfl) (by kernel_rfl) (by kernel_rfl) (by kernel_rfl) (fun _ _ _ h => h) (Or.inl ⟨by rfl, ?_⟩) (by assumption) ?_
  rotate_left
  · (intro V hSw; have hz := hSw.2.cells; have hy := hSw.cells; go_simp; try with_reducible rfl)
  try simp only [Act.put, gA, gS, gZ, sA, sZ, sS]
  refine wpL_take (i := 13) (oi := _) (v := ?_) [] rfl (by kernel_rfl) (by kernel_rfl) (by kernel_rfl) (by kernel_rfl) (by kernel_rfl) (fun _ _ _ h => h) (Or.inl ⟨by rfl, ?_⟩) (by assumption) ?_
  rotate_left
  · (intro V hSw; have hz := hSw.2.cells; have hy := hSw.cells; go_simp; try with_reducible rfl)
  try simp only [Act.put, gA, gS, gZ, sA, sZ, sS]
  clear hHeld hs6
  refine wpL_ready (rs := [14]) (by kernel_rfl) (by simp) ?_
  refine AllL.cons rfl (fun K hK => ?_) AllL.nil
  simp only [gA, gS, gZ]
  rw [if_pos (by rfl)]
  obtain ⟨e0, e1, e2, e3, e4, e5, e6, e7, e8, hf1⟩ := H6.out.1.cells
  go_simp
  refine hK.out _ _ (Or.inl rfl) ?_
  clear hK K e0 e1 e2 e3 e4 e5 e6 e7 e8 hf1
  try simp only [Act.put, gA, gS, gZ, sA, sZ, sS]
  refine wpL_done (by kernel_rfl) ?_ _
  have hnr : OwnT b0 w6 (some ⟨g, 0, none⟩) (mc + 1) cap1 (s1.cm ++ [(s.sn, D)]) := ⟨by rw [List.length_append, List.length_singleton]; have := H6.out.2.1; rw [← H5.out.1.rc.2] at this ⊢; exact this, by rw [List.length_append, List.length_singleton, H5.out.1.rc.2]⟩
  have hor6 : OwnT b0 w6 Aa ma ca s1.ac := own_eqT H5.out.1.ra fun k hk => H6.out.2.2.1.block k (own_ltT H5.out.1.ra k hk) fun e => H5.out.1.d k e.symm hk
  have hdd : ∀ k, (Value.slice (some ⟨g, 0, none⟩) (mc + 1) cap1).ownBlock = some k → (Value.slice Aa ma ca).ownBlock ≠ some k := fun k hk hk2 => by
    have hk : some g = some k := hk
    injection hk with hk
    subst hk
    rcases H6.out.2.2.2 with e | e
    · exact H5.out.1.d g e hk2
    · have := own_ltT H5.out.1.ra g hk2; simp only [World.size_alloc] at this e; omega
  have hpn := H6.out.1.setC hnr hor6 (ok_snoc H5.out.1.cok HDk.out) H5.out.1.aok hdd
  have hfp := (H5.out.2.grown H6.out.2.2.1 (fun k hk => .inl hk)).set 7 (.slice (some ⟨g, 0, none⟩) (mc + 1) cap1)
  have hnw : ∀ k, (Value.slice (some ⟨g, 0, none⟩) (mc + 1) cap1).ownBlock = some k → (Value.slice Ac mc cc).ownBlock = some k ∨ w.heap.size ≤ k := fun k hk => by
    have hk : some g = some k := hk
    injection hk with hk
    subst hk
    rcases H6.out.2.2.2 with e | e
    · exact .inl e
    · refine .inr ?_
      have := H4.out.2.size
      simp only [World.size_alloc] at e
      omega
  have hpb := ((onB_setCell w6 B 7 (.slice (some ⟨g, 0, none⟩) (mc + 1) cap1)).block w.heap.size (fun e => by have h1 := H6.out.1.1; have h2 := H6.out.1.2; unfold PkB at h2; rw [e, h1] at h2; injection h2 with h2; injection h2 with _ h2; exact absurd h2 (by decide))).trans H6.out.1.2
  have hz7 := pk_setB HZ6.out H6.out.1.1 7 (.slice (some ⟨g, 0, none⟩) (mc + 1) cap1)
  obtain ⟨w7, hw7⟩ : ∃ X, X = w6.setCell ⟨B, 7, none⟩ (.slice (some ⟨g, 0, none⟩) (mc + 1) cap1) := ⟨_, rfl⟩
  rw [← hw7] at hpn hfp hpb hz7 ⊢
  have H7 := Lib.hid (And.intro hpn (And.intro hfp (And.intro hnw hpb)))
  have HZ7 := Lib.hid hz7
  clear hz7 hw7 hnr hor6 hdd hpn hfp hnw hpb H6 H5 H4 HD HRo HBd HSz HS5
  go_upto_region 12 with fail
  refine wp_region_lit ?_
  refine wpList_load_row rfl TPk _ rfl w.heap.size rfl TPk #[.int .i64 p.c, .int .i64 p.f, .int .u64 s.sn, .int .u64 p.t, .string p.d] (0, 0) _ H7.out.2.2.2 Tryz.underlying33 rfl (by kernel_rfl) ?_
  refine wpList_store_rowTo rfl TPk _ _ rfl rfl (w.heap.size + 1) #[.int .i64 p.c, .int .i64 p.f, .int .u64 s.sn, .int .u64 p.t, .string p.d] rfl rfl TPk _ HZ7.out (by kernel_rfl) rfl (by kernel_rfl) ?_
  refine wpList_step (fun K hK => ?_)
  go_simp
  refine hK _ _ ?_
  clear hK K
  refine wpList_nil ?_
  have HR' := setRow_heap w7 (w.heap.size + 1) _ #[.int .i64 p.c, .int .i64 p.f, .int .u64 s.sn, .int .u64 p.t, .string p.d] TPk (0, 0) HZ7.out
  have ho := onB_setRow w7 (w.heap.size + 1) #[.int .i64 p.c, .int .i64 p.f, .int .u64 s.sn, .int .u64 p.t, .string p.d]
  have h9 := H7.out.2.1.setRow (b := w.heap.size + 1) (Nat.le_succ _) #[.int .i64 p.c, .int .i64 p.f, .int .u64 s.sn, .int .u64 p.t, .string p.d]
  have hl9 := H7.out.1.ofB HZ7.out ho
  have hnw := H7.out.2.2.1
  obtain ⟨w9, hw9⟩ : ∃ X, X = w7.setRow (w.heap.size + 1) #[.int .i64 p.c, .int .i64 p.f, .int .u64 s.sn, .int .u64 p.t, .string p.d] := ⟨_, rfl⟩
  rw [← hw9] at HR' h9 hl9 ⊢
  have hst : sentS p s = { s1 with cm := s1.cm ++ [(s.sn, D)] } := by unfold sentS; rw [HS1.out]; simp only; rw [ins_new _ _ _ HNo.out, HY.out, HDd.out]
  have H9 : Hid (PX b0 B (Value.slice Ac mc cc).ownBlock (Value.slice Aa ma ca).ownBlock w (sentS p s) w9) := Lib.hid ⟨some ⟨g, 0, none⟩, mc + 1, cap1, Aa, ma, ca, by rw [hst]; exact hl9, h9, hnw, fun k hk => .inl hk⟩
  clear hw9 hl9 h9 ho hst hnw
  go_wp2_with fail
  refine bodyPost_ret (v := .tuple #[.agg #[.int .i64 p.c, .int .i64 p.f, .int .u64 s.sn, .int .u64 p.t, .string p.d], .int .i64 0]) (res_cb Tryz.results9 _ _ (w.heap.size + 1) #[.int .i64 p.c, .int .i64 p.f, .int .u64 s.sn, .int .u64 p.t, .string p.d] rfl (run_loadVar_row w9 (w.heap.size + 1) TPk TPk #[.int .i64 p.c, .int .i64 p.f, .int .u64 s.sn, .int .u64 p.t, .string p.d] (0, 0) _ HR' Tryz.underlying33 rfl (by kernel_rfl))) rfl ⟨rfl, H9.out⟩
theorem psent_any {w : World} {b0 B : Nat} {s : St} {Ac Aa : Option Addr} {mc cc ma ca : Nat} (p : P5) (h : Int) (hL : PN b0 w B s Ac mc cc Aa ma ca) (hb0 : b0 ≤ w.heap.size) (hm : s.cm.length ≤ 1000000) (hp : p.ok) (hno : Mg.lk s.sn s.cm = none) (hn : 0 ≤ s.sn ∧ s.sn ≤ 18446744073709551615) :
    Calls Tryz.prog 9 #[.pointer (some ⟨B, 0, none⟩), pkv p, .int .u64 h] w fun e w' => e = .returned (.tuple #[pval (sendP s p h), .int .i64 (sendC s p h)]) ∧ PX b0 B (Value.slice Ac mc cc).ownBlock (Value.slice Aa ma ca).ownBlock w (sendS s p h) w' := by
  have errk : ∀ c, c ≠ 0 → sendC s p h = c → (Calls Tryz.prog 9 #[.pointer (some ⟨B, 0, none⟩), pkv p, .int .u64 h] w fun e w' => e = .returned (.tuple #[.agg #[.int .i64 0, .int .i64 0, .int .u64 0, .int .u64 0, .string ⟨#[]⟩], .int .i64 c]) ∧ Below w.heap.size w w') → Calls Tryz.prog 9 #[.pointer (some ⟨B, 0, none⟩), pkv p, .int .u64 h] w fun e w' => e = .returned (.tuple #[pval (sendP s p h), .int .i64 (sendC s p h)]) ∧ PX b0 B (Value.slice Ac mc cc).ownBlock (Value.slice Aa ma ca).ownBlock w (sendS s p h) w' := fun c hc he H => H.mono fun e w' ⟨h1, h2⟩ =>
    ⟨by unfold sendP; rw [he, if_neg hc]; exact h1, by unfold sendS; rw [he, if_neg hc]; exact PX.same hL h2⟩
  cases h1 : fitG s p s.sd
  · exact errk 1 (by decide) (by simp [sendC, h1]) (psent_unfit p h hL h1)
  by_cases h2 : p.s = 0
  · have h2' : (p.s != 0) = false := by simp [h2]
    cases h3 : s.cl
    · cases h4 : lateB p h
      · by_cases h5 : s.sn = 18446744073709551615
        · exact errk 11 (by decide) (by simp [sendC, h1, h2, h3, h4, h5]) (psent_full p h hL h1 h2' h3 hp.2.2.1 h4 (by simp [h5]))
        · have hz : sendC s p h = 0 := by simp [sendC, h1, h2, h3, h4, h5]
          refine (psent_ok p h hL hb0 hm hp hno hn.1 (by omega) h1 h2' h3 h4).mono fun e w' ⟨e1, e2⟩ => ⟨?_, ?_⟩
          · unfold sendP; rw [hz, if_pos rfl]; exact e1
          · unfold sendS; rw [hz, if_pos rfl]; exact e2
      · exact errk 20 (by decide) (by simp [sendC, h1, h2, h3, h4]) (psent_late p h hL h1 h2' h3 hp.2.2.1 h4)
    · exact errk 17 (by decide) (by simp [sendC, h1, h2, h3]) (psent_closed p h hL h1 h2' h3)
  · exact errk 1 (by decide) (by simp [sendC, h1, h2]) (psent_seq p h hL h1 (by simp [h2]))
theorem pnew_any (ch sd : Int) (o : Bool) (W : World) : Calls Tryz.prog 7 #[.int .i64 ch, .int .i64 sd, .bool o] W fun e w' => e = .returned (.pointer (some ⟨W.heap.size, 0, none⟩)) ∧ PN W.heap.size w' W.heap.size ⟨ch, sd, o, false, 1, 1, 1, [], []⟩ none 0 0 none 0 0 ∧ Below W.heap.size W w' := by
  go_enter Tryz.func7, Tryz.ntmps7
  go_wp2
  go_ret
  exact ⟨rfl, ⟨heap_alloc_new _ _, ⟨World.ownsRow_nil _ _ _ _, rfl⟩, ⟨World.ownsRow_nil _ _ _ _, rfl⟩, fun k hk => (by cases hk), fun x hx => (nomatch hx), fun x hx => (nomatch hx)⟩, (Below.refl _ _).alloc (Nat.le_refl _) _⟩
end Go.Proofs.YtdljphbfbiganaaGreatDoor.Pl
