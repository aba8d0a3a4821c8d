/- line: what an end does when a packet comes. -/
import Derived.Test.YtdljphbfbiganaaGreatDoorTk
import Derived.Test.YtdljphbfbiganaaGreatDoorLgAck
namespace Go.Proofs.YtdljphbfbiganaaGreatDoor.Lg
open Go Go.RowKit Packet Ln Mg
set_option linter.unusedVariables false

/-- behind the receipt -/
def PR (w : World) (p : P5) (E M N : Nat) (s : St) (W : World) : Prop := FrL E M N w W ∧ PkB W w.heap.size p ∧ W.heap[E]? = some (.cells #[.int .i64 s.ch, .int .i64 s.sd, .bool s.o, .bool s.cl, .int .u64 s.sn, .int .u64 s.rc, .int .u64 s.ak, .map (some M), .map (some N)] TLn (0, 0)) ∧ MG KS W M s.cm
section
variable {w W V : World} {E M N : Nat} {p : P5} {s : St}
theorem PR.drew (h : PR w p E M N s W) : PR w p E M N s W.drew := ⟨h.1.call (Below.refl _ _).drew, h.2.1, h.2.2.1, h.2.2.2.below (Below.refl _ _).drew⟩
theorem PR.call (h : PR w p E M N s W) (hb : Below W.heap.size W V) : PR w p E M N s V := ⟨h.1.call hb, h.2.1.below hb, (hb.block _ (lt_of h.2.2.1)).trans h.2.2.1, h.2.2.2.below hb⟩
theorem PR.on (h : PR w p E M N s W) (ho : OnB N W V) (hN : N < w.heap.size) (hE : E ≠ N) (hM : M ≠ N) : PR w p E M N s V :=
  ⟨h.1.onB ho (.inr (.inr (.inl rfl))), (ho.block _ (by omega)).trans h.2.1, (ho.block _ hE).trans h.2.2.1, h.2.2.2.of_eq (ho.block _ hM)⟩
theorem PR.cells (h : PR w p E M N s W) : W.cell? ⟨E, 8, none⟩ = some (.map (some N)) :=
  cell_of_row W E 8 _ _ (0, 0) h.2.2.1
end
theorem FrL.tab {E M N : Nat} {w W : World} {s : St} (h : FrL E M N w W) (ht : Sha.Tab w) (hl : LG w E M N s) : Sha.Tab W := by
  have ht' : w.var? Tryz.prog "muleteer/sha.constants" = some (Sha.constI.map fun z => Value.int .u32 z).toArray := ht
  show W.var? Tryz.prog "muleteer/sha.constants" = some (Sha.constI.map fun z => Value.int .u32 z).toArray
  unfold World.var? at ht' ⊢
  rw [Sha.tab_global] at ht' ⊢
  simp only [Option.bind_some] at ht' ⊢
  cases hg : w.heap[0]? with
  | none => rw [hg] at ht'; cases ht'
  | some o =>
    rw [hg] at ht'
    cases o with
    | cells cs t q =>
      have hcs : cs = (Sha.constI.map fun z => Value.int .u32 z).toArray := by simpa using ht'
      have hE : 0 ≠ E := fun e => by
        have hb := hl.box
        rw [← e, hg] at hb
        have := congrArg (fun o => match o with | some (Obj.cells c _ _) => c.size | _ => 0) hb
        simp only [hcs] at this
        rw [List.size_toArray, List.length_map, Sha.constI_len] at this
        cases this
      have hM : 0 ≠ M := mg_ne hl.com hg
      have hN : 0 ≠ N := mg_ne hl.ack hg
      rw [h.block _ (lt_of hg) hE hM hN, hg]
      simpa using hcs
    | _ => cases ht'
/-- the end behind it -/
def recU (p : P5) (s : St) : St := { s with ac := ins p.s (ackP (Sha.ackS p.d)) s.ac }
def recO (p : P5) (s : St) : St := { s with ac := ins p.s (ackP (Sha.ackS p.d)) s.ac, rc := s.rc + 1 }
open Classical in
noncomputable def recvC (s s2 : St) (p : P5) (x h : Int) : Int :=
  if fitG s p x = false then 1 else if s.cl = true then 17 else if (lk p.s s.ac).isSome = true then 15 else if lateB p h = true then 20 else if (lk p.s s2.cm).isSome = false then 18 else if sumOf p.s s2.cm ≠ sumP p then 18 else if s.o = true ∧ p.s ≠ s.rc then 19 else 0
open Classical in
noncomputable def recvS (s s2 : St) (p : P5) (x h : Int) : St := if recvC s s2 p x h = 0 then (if s.o = true then recO p s else recU p s) else s
open Classical in
noncomputable def recvT (s s2 : St) (p : P5) (x h : Int) : ByteArray := if recvC s s2 p x h = 0 then Sha.ackS p.d else ⟨#[]⟩
set_option maxRecDepth 20000 in
set_option maxHeartbeats 16000000 in
theorem recv_any {w : World} {E M N E2 M2 N2 : Nat} {s s2 : St} (p : P5) (h x : Int) (hT : Sha.Tab w) (hL : LG w E M N s) (hO : LG w E2 M2 N2 s2) (hp : p.ok) (hx : IntKind.i64.wrap (1 - s.sd) = x) (hr : 0 ≤ s.rc) (hc : (lk p.s s2.cm).isSome = true → p.s < 18446744073709551615) :
    Calls Tryz.prog 10 #[.pointer (some ⟨E, 0, none⟩), pkv p, .int .u64 h, .pointer (some ⟨E2, 0, none⟩)] w fun e w' => e = .returned (.tuple #[.string (recvT s s2 p x h), .int .i64 (recvC s s2 p x h)]) ∧ LG w' E M N (recvS s s2 p x h) ∧ FrL E M N w w' := by
  have EK : Hid (∀ c w', c ≠ 0 → recvC s s2 p x h = c → Below w.heap.size w w' → Ending.returned (.tuple #[.string ⟨#[]⟩, .int .i64 c]) = Ending.returned (.tuple #[.string (recvT s s2 p x h), .int .i64 (recvC s s2 p x h)]) ∧ LG w' E M N (recvS s s2 p x h) ∧ FrL E M N w w') := Lib.hid fun c w' hc he hb =>
    ⟨by unfold recvT; rw [he, if_neg hc], by unfold recvS; rw [he, if_neg hc]; exact hL.below hb, FrL.of_below hb⟩
  obtain ⟨bf, hbf⟩ : ∃ b, fitG s p x = b := ⟨_, rfl⟩
  obtain ⟨bl, hbl⟩ : ∃ b, lateB p h = b := ⟨_, rfl⟩
  obtain ⟨br, hbr⟩ : ∃ b, (lk p.s s.ac).isSome = b := ⟨_, rfl⟩
  obtain ⟨bk, hbk⟩ : ∃ b, (lk p.s s2.cm).isSome = b := ⟨_, rfl⟩
  obtain ⟨b, hb, hne⟩ := neq_sum (sumOf p.s s2.cm) (sumP p) (sumOf_ok hO.cok) (sumP_ok p)
  have HF := Lib.hid (fun W (hW : LG W E M N s) => hbf ▸ fits_g p x hW)
  have HLt := Lib.hid (fun W => hbl ▸ late_g p h W)
  have HRc := Lib.hid (fun W (hW : LG W E M N s) => hbr ▸ received_g p.s hW)
  have HSuR := Lib.hid (fun (hr : p.right) => sum_g p hr hp)
  have HBb := Lib.hid hb
  have hlk := fun W (hW : LG W E2 M2 N2 s2) => look_g p.s M2 s2.cm W hW.com
  simp only [hbk] at hlk
  have hC := sumOf_ok (k := p.s) hO.cok
  have HBf := Lib.hid hbf
  have HBl := Lib.hid hbl
  have HBr := Lib.hid hbr
  have HBk := Lib.hid hbk
  have HCc := Lib.hid (And.intro hr hc)
  clear hb
  generalize hCe : sumOf p.s s2.cm = C at HBb hlk hC hne
  generalize hDe : sumP p = D at HBb HSuR hne
  have HCe := Lib.hid hCe
  have HDe := Lib.hid hDe
  have HNe := Lib.hid hne
  have HLk := Lib.hid hlk
  have HC := Lib.hid hC
  have H0 := Lib.hid (PO.new (p := p) hL hO)
  have HEl := Lib.hid (And.intro hL.lt (And.intro hL.en (And.intro hL.mn (And.intro hL.cok hL.aok))))
  have HT := Lib.hid hT
  have HL0 := Lib.hid hL
  clear hbf hbl hbr hbk hne hlk hC hCe hDe hL hO hT hr hc hp
  go_enter Tryz.func10, Tryz.ntmps10
  go_upto_region 1 with fail
  refine wp_region_held_drew (S := PO w p E M N s E2 M2 N2 s2) (by kernel_rfl) (PO.drew H0.out) (fun hHeld => ?_)
  refine tk (i := 0) (v := ?_) rfl (by kernel_rfl) (fun _ _ _ h => h) (by rfl) ?_ (by assumption) ?_
  rotate_left
  · (intro W hSw; have hz := hSw.1.2.1.cells; have hy := hSw.1.2.2.cells; go_simp; try with_reducible rfl)
  try simp only [Act.put, gA, gZ, sA, sZ, sS]
  refine wpAnyH_ready (rs := [1]) (by kernel_rfl) (by simp) ?_
  refine AllReadyH.cons rfl (fun K hK => ?_) AllReadyH.nil
  simp only [gA, gS, gZ]
  rw [if_pos (by rfl)]
  go_simp
  (refine (made_g hHeld.1.2.2).mono ?_; rintro e w1 ⟨rfl, hw⟩; obtain rfl := hw.symm; clear hw)
  go_wp2_with fail
  refine hK.out _ _ hHeld (fun hHeld => ?_)
  clear hK K
  try simp only [Act.put, gA, gS, gZ, sA, sZ, sS]
  refine tk (i := 2) (v := ?_) rfl (by kernel_rfl) (fun _ _ _ h => h) (by rfl) ?_ (by assumption) ?_
  rotate_left
  · (intro W hSw; have hz := hSw.1.2.1.cells; have hy := hSw.1.2.2.cells; go_simp; try with_reducible rfl)
  try simp only [Act.put, gA, gS, gZ, sA, sZ, sS]
  refine tk (i := 3) (v := ?_) rfl (by kernel_rfl) (fun _ _ _ h => h) (by rfl) ?_ (by assumption) ?_
  rotate_left
  · (intro W hSw; have hz := hSw.1.2.1.cells; have hy := hSw.1.2.2.cells; go_simp; try with_reducible rfl)
  try simp only [Act.put, gA, gS, gZ, sA, sZ, sS]
  refine tk (i := 4) (v := ?_) rfl (by kernel_rfl) (fun _ _ _ h => h) (by rfl) ?_ (by assumption) ?_
  rotate_left
  · (intro W hSw; have hz := hSw.1.2.1.cells; have hy := hSw.1.2.2.cells; go_simp; try with_reducible rfl)
  try simp only [Act.put, gA, gS, gZ, sA, sZ, sS]
  refine wpAnyH_ready (rs := [5]) (by kernel_rfl) (by simp) ?_
  refine AllReadyH.cons rfl (fun K hK => ?_) AllReadyH.nil
  simp only [gA, gS, gZ]
  rw [if_pos (by rfl)]
  go_simp
  (refine (made_g hHeld.2).mono ?_; rintro e w1 ⟨rfl, hw⟩; obtain rfl := hw.symm; clear hw)
  go_wp2_with fail
  refine hK.out _ _ hHeld (fun hHeld => ?_)
  clear hK K
  try simp only [Act.put, gA, gS, gZ, sA, sZ, sS]
  refine tk (i := 6) (v := ?_) rfl (by kernel_rfl) (fun _ _ _ h => h) (by rfl) ?_ (by assumption) ?_
  rotate_left
  · (intro W hSw; have hz := hSw.1.2.1.cells; have hy := hSw.1.2.2.cells; go_simp; try with_reducible rfl)
  try simp only [Act.put, gA, gS, gZ, sA, sZ, sS]
  refine tk (i := 7) (v := ?_) rfl (by kernel_rfl) (fun _ _ _ h => h) (by rfl) ?_ (by assumption) ?_
  rotate_left
  · (intro W hSw; have hz := hSw.1.2.1.cells; have hy := hSw.1.2.2.cells; go_simp; try with_reducible rfl)
  try simp only [Act.put, gA, gS, gZ, sA, sZ, sS]
  refine tk (i := 8) (v := ?_) rfl (by kernel_rfl) (fun _ _ _ h => h) (by rfl) ?_ (by assumption) ?_
  rotate_left
  · (intro W hSw; have hz := hSw.1.2.1.cells; have hy := hSw.1.2.2.cells; go_simp; try with_reducible rfl)
  try simp only [Act.put, gA, gS, gZ, sA, sZ, sS]
  refine tk (i := 9) (v := ?_) rfl (by kernel_rfl) (fun _ _ _ h => h) (by rfl) ?_ (by assumption) ?_
  rotate_left
  · (intro W hSw; have hz := hSw.1.2.1.cells; have hy := hSw.1.2.2.cells; go_simp; try with_reducible rfl)
  try simp only [Act.put, gA, gS, gZ, sA, sZ, sS]
  refine tk (i := 10) (v := ?_) rfl (by kernel_rfl) (fun _ _ _ h => h) (by rfl) ?_ (by assumption) ?_
  rotate_left
  · (intro W hSw; have hz := hSw.1.2.1.cells; have hy := hSw.1.2.2.cells; go_simp; try with_reducible rfl)
  try simp only [Act.put, gA, gS, gZ, sA, sZ, sS]
  refine tk (i := 11) (v := ?_) rfl (by kernel_rfl) (fun _ _ _ h => h) (by rfl) ?_ (by assumption) ?_
  rotate_left
  · (intro W hSw; have hz := hSw.1.2.1.cells; have hy := hSw.1.2.2.cells; go_simp; try with_reducible rfl)
  try simp only [Act.put, gA, gS, gZ, sA, sZ, sS]
  refine tk (i := 12) (v := ?_) rfl (by kernel_rfl) (fun _ _ _ h => h) (by rfl) ?_ (by assumption) ?_
  rotate_left
  · (intro W hSw; have hz := hSw.1.2.1.cells; have hy := hSw.1.2.2.cells; go_simp; try with_reducible rfl)
  try simp only [Act.put, gA, gS, gZ, sA, sZ, sS]
  refine tk (i := 13) (v := ?_) rfl (by kernel_rfl) (fun _ _ _ h => h) (by rfl) ?_ (by assumption) ?_
  rotate_left
  · (intro W hSw; have hz := hSw.1.2.1.cells; have hy := hSw.1.2.2.cells; go_simp; try with_reducible rfl)
  try simp only [Act.put, gA, gS, gZ, sA, sZ, sS]
  refine tk (i := 14) (v := ?_) rfl (by kernel_rfl) (fun _ _ _ h => h) (by rfl) ?_ (by assumption) ?_
  rotate_left
  · (intro W hSw; have hz := hSw.1.2.1.cells; have hy := hSw.1.2.2.cells; go_simp; try with_reducible rfl)
  try simp only [Act.put, gA, gS, gZ, sA, sZ, sS]
  refine tk (i := 15) (v := ?_) rfl (by kernel_rfl) (fun _ _ _ h => h) (by rfl) ?_ (by assumption) ?_
  rotate_left
  · (intro W hSw; have hz := hSw.1.2.1.cells; have hy := hSw.1.2.2.cells; go_simp; try with_reducible rfl)
  try simp only [Act.put, gA, gS, gZ, sA, sZ, sS]
  refine wpAnyH_ready (rs := [16]) (by kernel_rfl) (by simp) ?_
  refine AllReadyH.cons rfl (fun K hK => ?_) AllReadyH.nil
  simp only [gA, gS, gZ]
  rw [if_pos (by rfl)]
  go_simp
  (refine (HF.out _ hHeld.1.2.2).mono ?_; rintro e w1 ⟨rfl, hb1⟩)
  go_wp2_with fail
  refine hK.out _ _ (PO.call hHeld hb1) (fun hHeld => ?_)
  clear hK K
  try simp only [Act.put, gA, gS, gZ, sA, sZ, sS]
  refine tk (i := 17) (v := ?_) rfl (by kernel_rfl) (fun _ _ _ h => h) (by rfl) ?_ (by assumption) ?_
  rotate_left
  · (intro W hSw; have hz := hSw.1.2.1.cells; have hy := hSw.1.2.2.cells; go_simp; try with_reducible rfl)
  try simp only [Act.put, gA, gS, gZ, sA, sZ, sS]
  refine tk (i := 18) (v := ?_) rfl (by kernel_rfl) (fun _ _ _ h => h) (by rfl) ?_ (by assumption) ?_
  rotate_left
  · (intro W hSw; have hz := hSw.1.2.1.cells; have hy := hSw.1.2.2.cells; go_simp; try with_reducible rfl)
  try simp only [Act.put, gA, gS, gZ, sA, sZ, sS]
  refine wpAnyH_done (by kernel_rfl) ?_ _
  have H1 := Lib.hid hHeld
  clear hHeld H0 hb1 hx HF
  cases bf
  · go_wp2
    go_ret2
    exact EK.out 1 _ (by decide) (by unfold recvC; rw [HBf.out, if_pos rfl]) H1.out.1.1
  have hrt := ((fitG_iff s p x).1 HBf.out).1
  have HS := Lib.hid (HSuR.out hrt)
  have HRt := Lib.hid hrt
  clear HSuR hrt
  go_upto_region 3 with fail
  refine wp_region_held_drew (S := PO w p E M N s E2 M2 N2 s2) (by kernel_rfl) (PO.drew H1.out) (fun hHeld => ?_)
  refine tk (i := 0) (v := ?_) rfl (by kernel_rfl) (fun _ _ _ h => h) (by rfl) ?_ (by assumption) ?_
  rotate_left
  · (intro W hSw; have hz := hSw.1.2.1.cells; have hy := hSw.2.cells; have hlk := HLk.out _ hSw.2; go_simp; try with_reducible rfl)
  try simp only [Act.put, gA, gZ, sA, sZ, sS]
  refine tk (i := 1) (v := ?_) rfl (by kernel_rfl) (fun _ _ _ h => h) (by rfl) ?_ (by assumption) ?_
  rotate_left
  · (intro W hSw; have hz := hSw.1.2.1.cells; have hy := hSw.2.cells; have hlk := HLk.out _ hSw.2; go_simp; try with_reducible rfl)
  try simp only [Act.put, gA, gS, gZ, sA, sZ, sS]
  refine tk (i := 2) (v := ?_) rfl (by kernel_rfl) (fun _ _ _ h => h) (by rfl) ?_ (by assumption) ?_
  rotate_left
  · (intro W hSw; have hz := hSw.1.2.1.cells; have hy := hSw.2.cells; have hlk := HLk.out _ hSw.2; go_simp; try with_reducible rfl)
  try simp only [Act.put, gA, gS, gZ, sA, sZ, sS]
  refine tk (i := 3) (v := ?_) rfl (by kernel_rfl) (fun _ _ _ h => h) (by rfl) ?_ (by assumption) ?_
  rotate_left
  · (intro W hSw; have hz := hSw.1.2.1.cells; have hy := hSw.2.cells; have hlk := HLk.out _ hSw.2; go_simp; try with_reducible rfl)
  try simp only [Act.put, gA, gS, gZ, sA, sZ, sS]
  refine tk (i := 4) (v := ?_) rfl (by kernel_rfl) (fun _ _ _ h => h) (by rfl) ?_ (by assumption) ?_
  rotate_left
  · (intro W hSw; have hz := hSw.1.2.1.cells; have hy := hSw.2.cells; have hlk := HLk.out _ hSw.2; go_simp; try with_reducible rfl)
  try simp only [Act.put, gA, gS, gZ, sA, sZ, sS]
  refine tk (i := 5) (v := ?_) rfl (by kernel_rfl) (fun _ _ _ h => h) (by rfl) ?_ (by assumption) ?_
  rotate_left
  · (intro W hSw; have hz := hSw.1.2.1.cells; have hy := hSw.2.cells; have hlk := HLk.out _ hSw.2; go_simp; try with_reducible rfl)
  try simp only [Act.put, gA, gS, gZ, sA, sZ, sS]
  refine tk (i := 6) (v := ?_) rfl (by kernel_rfl) (fun _ _ _ h => h) (by rfl) ?_ (by assumption) ?_
  rotate_left
  · (intro W hSw; have hz := hSw.1.2.1.cells; have hy := hSw.2.cells; have hlk := HLk.out _ hSw.2; go_simp; try with_reducible rfl)
  try simp only [Act.put, gA, gS, gZ, sA, sZ, sS]
  refine tk (i := 7) (v := ?_) rfl (by kernel_rfl) (fun _ _ _ h => h) (by rfl) ?_ (by assumption) ?_
  rotate_left
  · (intro W hSw; have hz := hSw.1.2.1.cells; have hy := hSw.2.cells; have hlk := HLk.out _ hSw.2; go_simp; try with_reducible rfl)
  try simp only [Act.put, gA, gS, gZ, sA, sZ, sS]
  refine tk (i := 8) (v := ?_) rfl (by kernel_rfl) (fun _ _ _ h => h) (by rfl) ?_ (by assumption) ?_
  rotate_left
  · (intro W hSw; have hz := hSw.1.2.1.cells; have hy := hSw.2.cells; have hlk := HLk.out _ hSw.2; go_simp; try with_reducible rfl)
  try simp only [Act.put, gA, gS, gZ, sA, sZ, sS]
  refine tk (i := 9) (v := ?_) rfl (by kernel_rfl) (fun _ _ _ h => h) (by rfl) ?_ (by assumption) ?_
  rotate_left
  · (intro W hSw; have hz := hSw.1.2.1.cells; have hy := hSw.2.cells; have hlk := HLk.out _ hSw.2; go_simp; try with_reducible rfl)
  try simp only [Act.put, gA, gS, gZ, sA, sZ, sS]
  refine wpAnyH_ready (rs := [10]) (by kernel_rfl) (by simp) ?_
  refine AllReadyH.cons rfl (fun K hK => ?_) AllReadyH.nil
  simp only [gA, gS, gZ]
  rw [if_pos (by rfl)]
  go_simp
  refine hK.out _ _ (PO.call hHeld ((Below.refl _ _).alloc (Nat.le_refl _) _)) (fun hHeld => ?_)
  clear hK K
  try simp only [Act.put, gA, gS, gZ, sA, sZ, sS]
  have hst : (storeCells ⟨w1.heap.size, 0, none⟩ C.toList).run Tryz.prog (w1.alloc (.cells #[.int .u8 0, .int .u8 0, .int .u8 0, .int .u8 0, .int .u8 0, .int .u8 0, .int .u8 0, .int .u8 0, .int .u8 0, .int .u8 0, .int .u8 0, .int .u8 0, .int .u8 0, .int .u8 0, .int .u8 0, .int .u8 0, .int .u8 0, .int .u8 0, .int .u8 0, .int .u8 0, .int .u8 0, .int .u8 0, .int .u8 0, .int .u8 0, .int .u8 0, .int .u8 0, .int .u8 0, .int .u8 0, .int .u8 0, .int .u8 0, .int .u8 0, .int .u8 0] TSm)).drew = .ok () (w1.alloc (.cells C TSm)).drew := run_storeCells_new (P := Tryz.prog) w1.drew TSm #[.int .u8 0, .int .u8 0, .int .u8 0, .int .u8 0, .int .u8 0, .int .u8 0, .int .u8 0, .int .u8 0, .int .u8 0, .int .u8 0, .int .u8 0, .int .u8 0, .int .u8 0, .int .u8 0, .int .u8 0, .int .u8 0, .int .u8 0, .int .u8 0, .int .u8 0, .int .u8 0, .int .u8 0, .int .u8 0, .int .u8 0, .int .u8 0, .int .u8 0, .int .u8 0, .int .u8 0, .int .u8 0, .int .u8 0, .int .u8 0, .int .u8 0, .int .u8 0] C (i32 C HC.out.1) (by rw [HC.out.1]; rfl) HC.out.2.1
  have hCz := HC.out.1
  refine wpAnyH_ready (rs := [11]) (by kernel_rfl) (by simp) ?_
  refine AllReadyH.cons rfl (fun K hK => ?_) AllReadyH.nil
  simp only [gA, gS, gZ]
  rw [if_pos (by rfl)]
  go_simp
  refine hK.out _ _ (PO.call (PO.drew H1.out) ((Below.refl _ _).alloc (Nat.le_refl _) _)) (fun hHeld => ?_)
  clear hK K
  try simp only [Act.put, gA, gS, gZ, sA, sZ, sS]
  refine tk (i := 12) (v := ?_) rfl (by kernel_rfl) (fun _ _ _ h => h) (by rfl) ?_ (by assumption) ?_
  rotate_left
  · (intro W hSw; have hz := hSw.1.2.1.cells; have hy := hSw.2.cells; have hlk := HLk.out _ hSw.2; go_simp; try with_reducible rfl)
  try simp only [Act.put, gA, gS, gZ, sA, sZ, sS]
  refine wpAnyH_done (by kernel_rfl) ?_ _
  have H3 : Hid (PO w p E M N s E2 M2 N2 s2 ((w1.alloc (.cells C TSm)).drew) ∧ (w1.alloc (.cells C TSm)).drew.heap[w1.heap.size]? = some (.cells C TSm (0, 0))) := Lib.hid ⟨hHeld, heap_alloc_new w1.drew _⟩
  obtain ⟨w3, hw3⟩ : ∃ X, X = (w1.alloc (.cells C TSm)).drew := ⟨_, rfl⟩
  obtain ⟨G, hG⟩ : ∃ X, X = w1.heap.size := ⟨_, rfl⟩
  rw [← hw3] at H3 ⊢
  rw [← hG] at H3 ⊢
  clear hw3 hG hst hHeld H1
  obtain ⟨h0, h1, h2, h3, h4, hf0⟩ := H3.out.1.1.2.1.cells
  obtain ⟨e0, e1, e2, e3, e4, e5, e6, e7, e8, hf1⟩ := H3.out.1.1.2.2.cells
  cases hcl : s.cl
  rotate_left
  · rw [hcl] at e3
    go_wp2
    go_ret2
    exact EK.out 17 _ (by decide) (by unfold recvC; rw [HBf.out, if_neg (by decide), if_pos hcl]) H3.out.1.1.1
  rw [hcl] at e3
  go_wp2_with fail
  refine (HRc.out _ H3.out.1.1.2.2).mono ?_
  rintro _ w4 ⟨rfl, b4⟩
  have H4 : Hid (PO w p E M N s E2 M2 N2 s2 w4 ∧ w4.heap[G]? = some (.cells C TSm (0, 0))) := Lib.hid ⟨PO.call H3.out.1 b4, (b4.block _ (lt_of H3.out.2)).trans H3.out.2⟩
  clear h0 h1 h2 h3 h4 hf0 e0 e1 e2 e3 e4 e5 e6 e7 e8 hf1 b4 H3
  obtain ⟨h0, h1, h2, h3, h4, hf0⟩ := H4.out.1.1.2.1.cells
  obtain ⟨e0, e1, e2, e3, e4, e5, e6, e7, e8, hf1⟩ := H4.out.1.1.2.2.cells
  cases br
  rotate_left
  · go_wp2
    go_ret2
    exact EK.out 15 _ (by decide) (by unfold recvC; rw [HBf.out, if_neg (by decide), hcl, if_neg (by decide), HBr.out, if_pos rfl]) H4.out.1.1.1
  go_wp2_with fail
  refine (HLt.out _).mono ?_
  rintro _ w5 ⟨rfl, b5⟩
  have H5 : Hid (PO w p E M N s E2 M2 N2 s2 w5 ∧ w5.heap[G]? = some (.cells C TSm (0, 0))) := Lib.hid ⟨PO.call H4.out.1 b5, (b5.block _ (lt_of H4.out.2)).trans H4.out.2⟩
  clear h0 h1 h2 h3 h4 hf0 e0 e1 e2 e3 e4 e5 e6 e7 e8 hf1 b5 H4
  obtain ⟨h0, h1, h2, h3, h4, hf0⟩ := H5.out.1.1.2.1.cells
  obtain ⟨e0, e1, e2, e3, e4, e5, e6, e7, e8, hf1⟩ := H5.out.1.1.2.2.cells
  cases bl
  rotate_left
  · go_wp2
    go_ret2
    exact EK.out 20 _ (by decide) (by unfold recvC; rw [HBf.out, if_neg (by decide), hcl, if_neg (by decide), HBr.out, if_neg (by decide), HBl.out, if_pos rfl]) H5.out.1.1.1
  cases bk
  · go_wp2
    go_ret2
    exact EK.out 18 _ (by decide) (by unfold recvC; rw [HBf.out, if_neg (by decide), hcl, if_neg (by decide), HBr.out, if_neg (by decide), HBl.out, if_neg (by decide), HBk.out, if_pos rfl]) H5.out.1.1.1
  go_upto_region 8 with fail
  clear h0 h1 h2 h3 h4 hf0 e0 e1 e2 e3 e4 e5 e6 e7 e8 hf1
  refine wp_region_held_drew (S := fun W => PO w p E M N s E2 M2 N2 s2 W ∧ W.heap[G]? = some (.cells C TSm (0, 0))) (by kernel_rfl) ⟨PO.drew H5.out.1, H5.out.2⟩ (fun hHeld => ?_)
  refine tk (i := 0) (v := ?_) rfl (by kernel_rfl) (fun _ _ _ h => h) (by rfl) ?_ (by assumption) ?_
  rotate_left
  · (intro W hSw; (refine Sha.yields_row TSm (.tmp 10) ?_ G ?_ TSm C (0, 0) _ hSw.2 Tryz.underlying58 rfl (i32 C HC.out.1)); rfl; rfl)
  try simp only [Act.put, gA, gZ, sA, sZ, sS]
  refine tk (i := 1) (v := ?_) rfl (by kernel_rfl) (fun _ _ _ h => h) (by rfl) ?_ (by assumption) ?_
  rotate_left
  · (intro W hSw; have hz := hSw.1.1.2.1.cells; go_simp; try with_reducible rfl)
  try simp only [Act.put, gA, gS, gZ, sA, sZ, sS]
  refine wpAnyH_ready (rs := [2]) (by kernel_rfl) (by simp) ?_
  refine AllReadyH.cons rfl (fun K hK => ?_) AllReadyH.nil
  simp only [gA, gS, gZ]
  rw [if_pos (by rfl)]
  go_simp
  (refine (HS.out _ (Sha.tab_below HT.out hHeld.1.1.1)).mono ?_; rintro e w6 ⟨rfl, hb6⟩)
  go_wp2_with fail
  refine hK.out _ _ ⟨PO.call hHeld.1 hb6, (hb6.block _ (lt_of hHeld.2)).trans hHeld.2⟩ (fun hHeld => ?_)
  clear hK K
  try simp only [Act.put, gA, gS, gZ, sA, sZ, sS]
  have hneq := HNe.out
  refine tk (i := 3) (v := ?_) rfl (by kernel_rfl) (fun _ _ _ h => h) (by rfl) ?_ (by assumption) ?_
  rotate_left
  · (intro W hSw; have hz := hSw.1.1.2.1.cells; go_simp; try with_reducible rfl)
  try simp only [Act.put, gA, gS, gZ, sA, sZ, sS]
  refine tk (i := 4) (v := ?_) rfl (by kernel_rfl) (fun _ _ _ h => h) (by rfl) ?_ (by assumption) ?_
  rotate_left
  · (intro W hSw; have hz := hSw.1.1.2.1.cells; go_simp; try with_reducible rfl)
  try simp only [Act.put, gA, gS, gZ, sA, sZ, sS]
  refine wpAnyH_done (by kernel_rfl) ?_ _
  have H6 := Lib.hid hHeld.1
  clear hHeld hneq hb6 H5
  cases b
  · go_wp2
    go_ret2
    exact EK.out 18 _ (by decide) (by unfold recvC; rw [HBf.out, if_neg (by decide), hcl, if_neg (by decide), HBr.out, if_neg (by decide), HBl.out, if_neg (by decide), HBk.out, if_neg (by decide), HCe.out, HDe.out, if_pos (fun e => absurd (HBb.out.2 e) (by decide))]) H6.out.1.1
  have heq := HBb.out.1 rfl
  have HEq := Lib.hid heq
  clear heq
  cases hor : s.o
  · have hA := Sha.ack_any p (by have := HRt.out.2.2.2; omega)
    have hOf := of_g (Sha.ackS p.d) (by rw [Sha.ackS_size]; decide)
    have hrs : ∀ q : St, q = q := fun _ => rfl
    obtain ⟨A, hAe⟩ : ∃ A, A = Sha.ackS p.d := ⟨_, rfl⟩
    obtain ⟨Q, hQ⟩ : ∃ Q, Q = ackP (Sha.ackS p.d) := ⟨_, rfl⟩
    have hQo : SumOk Q := hQ ▸ ackP_ok _
    rw [← hQ, ← hAe] at hOf
    rw [← hAe] at hA
    have HA := Lib.hid hA
    have HOf := Lib.hid hOf
    have HQ := Lib.hid (And.intro hQ (And.intro hAe hQo))
    clear hA hOf hrs hQ hAe hQo
    go_upto_region 9 with fail
    refine wp_region_held_drew (S := PO w p E M N s E2 M2 N2 s2) (by kernel_rfl) (PO.drew H6.out) (fun hHeld => ?_)
    refine tk (i := 0) (v := ?_) rfl (by kernel_rfl) (fun _ _ _ h => h) (by rfl) ?_ (by assumption) ?_
    rotate_left
    · (intro W hSw; have hz := hSw.1.2.1.cells; have hy := hSw.1.2.2.cells; go_simp; try with_reducible rfl)
    try simp only [Act.put, gA, gZ, sA, sZ, sS]
    refine tk (i := 1) (v := ?_) rfl (by kernel_rfl) (fun _ _ _ h => h) (by rfl) ?_ (by assumption) ?_
    rotate_left
    · (intro W hSw; have hz := hSw.1.2.1.cells; have hy := hSw.1.2.2.cells; go_simp; try with_reducible rfl)
    try simp only [Act.put, gA, gS, gZ, sA, sZ, sS]
    refine tk (i := 2) (v := ?_) rfl (by kernel_rfl) (fun _ _ _ h => h) (by rfl) ?_ (by assumption) ?_
    rotate_left
    · (intro W hSw; have hz := hSw.1.2.1.cells; have hy := hSw.1.2.2.cells; go_simp; try with_reducible rfl)
    try simp only [Act.put, gA, gS, gZ, sA, sZ, sS]
    refine tk (i := 3) (v := ?_) rfl (by kernel_rfl) (fun _ _ _ h => h) (by rfl) ?_ (by assumption) ?_
    rotate_left
    · (intro W hSw; have hz := hSw.1.2.1.cells; have hy := hSw.1.2.2.cells; go_simp; try with_reducible rfl)
    try simp only [Act.put, gA, gS, gZ, sA, sZ, sS]
    refine tk (i := 4) (v := ?_) rfl (by kernel_rfl) (fun _ _ _ h => h) (by rfl) ?_ (by assumption) ?_
    rotate_left
    · (intro W hSw; have hz := hSw.1.2.1.cells; have hy := hSw.1.2.2.cells; go_simp; try with_reducible rfl)
    try simp only [Act.put, gA, gS, gZ, sA, sZ, sS]
    refine tn (i := 5) rfl (by kernel_rfl) (fun _ _ _ h => h) (by rfl) rfl (by assumption) ?_
    try simp only [Act.put, gA, gS, gZ, sA, sZ, sS]
    refine tn (i := 6) rfl (by kernel_rfl) (fun _ _ _ h => h) (by rfl) rfl (by assumption) ?_
    try simp only [Act.put, gA, gS, gZ, sA, sZ, sS]
    refine tn (i := 7) rfl (by kernel_rfl) (fun _ _ _ h => h) (by rfl) rfl (by assumption) ?_
    try simp only [Act.put, gA, gS, gZ, sA, sZ, sS]
    refine tn (i := 8) rfl (by kernel_rfl) (fun _ _ _ h => h) (by rfl) rfl (by assumption) ?_
    try simp only [Act.put, gA, gS, gZ, sA, sZ, sS]
    refine tn (i := 9) rfl (by kernel_rfl) (fun _ _ _ h => h) (by rfl) rfl (by assumption) ?_
    try simp only [Act.put, gA, gS, gZ, sA, sZ, sS]
    refine tn (i := 10) rfl (by kernel_rfl) (fun _ _ _ h => h) (by rfl) rfl (by assumption) ?_
    try simp only [Act.put, gA, gS, gZ, sA, sZ, sS]
    refine tn (i := 11) rfl (by kernel_rfl) (fun _ _ _ h => h) (by rfl) rfl (by assumption) ?_
    try simp only [Act.put, gA, gS, gZ, sA, sZ, sS]
    refine tk (i := 12) (v := ?_) rfl (by kernel_rfl) (fun _ _ _ h => h) (by rfl) ?_ (by assumption) ?_
    rotate_left
    · (intro W hSw; have hz := hSw.1.2.1.cells; have hy := hSw.1.2.2.cells; go_simp; try with_reducible rfl)
    try simp only [Act.put, gA, gS, gZ, sA, sZ, sS]
    refine tk (i := 13) (v := ?_) rfl (by kernel_rfl) (fun _ _ _ h => h) (by rfl) ?_ (by assumption) ?_
    rotate_left
    · (intro W hSw; have hz := hSw.1.2.1.cells; have hy := hSw.1.2.2.cells; go_simp; try with_reducible rfl)
    try simp only [Act.put, gA, gS, gZ, sA, sZ, sS]
    refine wpAnyH_done (by kernel_rfl) ?_ _
    have H7 := Lib.hid (PO.drew H6.out)
    clear hHeld H6
    obtain ⟨w7, hw7⟩ : ∃ X, X = w6.drew := ⟨_, rfl⟩
    rw [← hw7] at H7 ⊢
    clear hw7
    obtain ⟨h0, h1, h2, h3, h4, hf0⟩ := H7.out.1.2.1.cells
    obtain ⟨e0, e1, e2, e3, e4, e5, e6, e7, e8, hf1⟩ := H7.out.1.2.2.cells
    go_upto_region 17 with fail
    clear h0 h1 h2 h3 h4 hf0 e0 e1 e2 e3 e4 e5 e6 e7 e8 hf1
    have HK := Lib.hid (And.intro H7.out.1.2.2 (And.intro (FrL.of_below (E := E) (M := M) (N := N) H7.out.1.1) H7.out.1.2.1))
    obtain ⟨h0, h1, h2, h3, h4, hf0⟩ := HK.out.2.2.cells
    go_wp2_with fail
    refine (HA.out _ (HK.out.2.1.tab HT.out HL0.out)).mono ?_
    rintro _ wa ⟨rfl, ba⟩
    have HZ : Hid (PR w p E M N s wa) := Lib.hid ⟨HK.out.2.1.call ba, HK.out.2.2.below ba, (HK.out.1.below ba).box, (HK.out.1.below ba).com⟩
    have HTa := Lib.hid (Sha.tab_below (HK.out.2.1.tab HT.out HL0.out) ba)
    have HN := Lib.hid (HK.out.1.below ba).ack
    clear h0 h1 h2 h3 h4 hf0 HK ba
    go_upto_region 18 with fail
    refine wp_region_held_drew (S := PR w p E M N s) (by kernel_rfl) (PR.drew HZ.out) (fun hHeld => ?_)
    refine tk (i := 0) (v := ?_) rfl (by kernel_rfl) (fun _ _ _ h => h) (by rfl) ?_ (by assumption) ?_
    rotate_left
    · (intro W hSw; have hz := hSw.2.1.cells; have e8 := hSw.cells; go_simp; try with_reducible rfl)
    try simp only [Act.put, gA, gZ, sA, sZ, sS]
    refine tk (i := 1) (v := ?_) rfl (by kernel_rfl) (fun _ _ _ h => h) (by rfl) ?_ (by assumption) ?_
    rotate_left
    · (intro W hSw; have hz := hSw.2.1.cells; have e8 := hSw.cells; go_simp; try with_reducible rfl)
    try simp only [Act.put, gA, gS, gZ, sA, sZ, sS]
    refine tk (i := 2) (v := ?_) rfl (by kernel_rfl) (fun _ _ _ h => h) (by rfl) ?_ (by assumption) ?_
    rotate_left
    · (intro W hSw; have hz := hSw.2.1.cells; have e8 := hSw.cells; go_simp; try with_reducible rfl)
    try simp only [Act.put, gA, gS, gZ, sA, sZ, sS]
    refine tk (i := 3) (v := ?_) rfl (by kernel_rfl) (fun _ _ _ h => h) (by rfl) ?_ (by assumption) ?_
    rotate_left
    · (intro W hSw; have hz := hSw.2.1.cells; have e8 := hSw.cells; go_simp; try with_reducible rfl)
    try simp only [Act.put, gA, gS, gZ, sA, sZ, sS]
    refine tk (i := 4) (v := ?_) rfl (by kernel_rfl) (fun _ _ _ h => h) (by rfl) ?_ (by assumption) ?_
    rotate_left
    · (intro W hSw; have hz := hSw.2.1.cells; have e8 := hSw.cells; go_simp; try with_reducible rfl)
    try simp only [Act.put, gA, gS, gZ, sA, sZ, sS]
    refine tk (i := 5) (v := ?_) rfl (by kernel_rfl) (fun _ _ _ h => h) (by rfl) ?_ (by assumption) ?_
    rotate_left
    · (intro W hSw; have hz := hSw.2.1.cells; have e8 := hSw.cells; go_simp; try with_reducible rfl)
    try simp only [Act.put, gA, gS, gZ, sA, sZ, sS]
    refine tk (i := 6) (v := ?_) rfl (by kernel_rfl) (fun _ _ _ h => h) (by rfl) ?_ (by assumption) ?_
    rotate_left
    · (intro W hSw; have hz := hSw.2.1.cells; have e8 := hSw.cells; go_simp; try with_reducible rfl)
    try simp only [Act.put, gA, gS, gZ, sA, sZ, sS]
    refine wpAnyH_ready (rs := [7]) (by kernel_rfl) (by simp) ?_
    refine AllReadyH.cons rfl (fun K hK => ?_) AllReadyH.nil
    simp only [gA, gS, gZ]
    rw [if_pos (by rfl)]
    go_simp
    refine hK.out _ _ (PR.call hHeld ((Below.refl _ _).alloc (Nat.le_refl _) _)) (fun hHeld => ?_)
    clear hK K
    try simp only [Act.put, gA, gS, gZ, sA, sZ, sS]
    have hbx : Below wa.heap.size wa (wa.alloc (.cells #[.string A] 9)).drew := ((Below.refl _ _).alloc (Nat.le_refl _) _).drew
    have HBx := Lib.hid hbx
    clear hbx
    refine wpAnyH_ready (rs := [8]) (by kernel_rfl) (by simp) ?_
    refine AllReadyH.cons rfl (fun K hK => ?_) AllReadyH.nil
    simp only [gA, gS, gZ]
    rw [if_pos (by rfl)]
    go_simp
    (refine (HOf.out _ _ (Sha.tab_below HTa.out HBx.out) (by simp) (by simp)).mono ?_; rintro e wo ⟨rfl, hbo⟩)
    go_wp2_with fail
    refine hK.out _ _ (PR.call hHeld hbo) (fun hHeld => ?_)
    clear hK K
    try simp only [Act.put, gA, gS, gZ, sA, sZ, sS]
    have HBo := Lib.hid (HBx.out.trans (hbo.mono HBx.out.size))
    obtain ⟨wd, hput, hmg, hon⟩ := put_run ks_ok p.s Q N s.ac wo (HN.out.below HBo.out)
    have hput' : (Instr.mapUpdate TMp (.map (some N)) (.int .u64 p.s) (.agg Q)).run Tryz.prog wo = .ok () wd := hput
    have HG := Lib.hid hmg
    have HO := Lib.hid hon
    clear hput hmg hon
    refine wpAnyH_ready (rs := [9]) (by kernel_rfl) (by simp) ?_
    refine AllReadyH.cons rfl (fun K hK => ?_) AllReadyH.nil
    simp only [gA, gS, gZ]
    rw [if_pos (by rfl)]
    go_simp
    refine hK.out _ _ (PR.on hHeld HO.out HEl.out.1.2.2 HEl.out.2.1 HEl.out.2.2.1) (fun hHeld => ?_)
    clear hK K
    try simp only [Act.put, gA, gS, gZ, sA, sZ, sS]
    refine wpAnyH_done (by kernel_rfl) ?_ _
    have H9 := Lib.hid hHeld
    clear hput' hHeld hbo HBx HBo HZ HN HTa
    go_wp2
    go_ret2
    have hz : recvC s s2 p x h = 0 := by unfold recvC; rw [HBf.out, if_neg (by decide), hcl, if_neg (by decide), HBr.out, if_neg (by decide), HBl.out, if_neg (by decide), HBk.out, if_neg (by decide), HCe.out, HDe.out, if_neg (fun e => e HEq.out), if_neg (fun e => absurd (hor ▸ e.1) (by decide))]
    have hS : recvS s s2 p x h = recU p s := by unfold recvS; rw [if_pos hz]; rw [hor]; rfl
    have hT' : recvT s s2 p x h = A := by unfold recvT; rw [if_pos hz]; exact HQ.out.2.1.symm
    rw [hz, hS, hT']
    refine ⟨rfl, ⟨H9.out.2.2.1, H9.out.2.2.2, ?_, HEl.out.2.2.1, HEl.out.2.2.2.1, fun x hx => ?_⟩, H9.out.1⟩
    · have := HG.out
      rw [HQ.out.1] at this
      exact this
    · rcases mem_ins hx with rfl | hx
      · exact ackP_ok _
      · exact HEl.out.2.2.2.2 x hx
  by_cases hnk : p.s = s.rc
  rotate_left
  · have hne2 : (p.s != s.rc) = true := by simp [hnk]
    go_upto_region 9 with fail
    refine wp_region_held_drew (S := PO w p E M N s E2 M2 N2 s2) (by kernel_rfl) (PO.drew H6.out) (fun hHeld => ?_)
    refine tk (i := 0) (v := ?_) rfl (by kernel_rfl) (fun _ _ _ h => h) (by rfl) ?_ (by assumption) ?_
    rotate_left
    · (intro W hSw; have hz := hSw.1.2.1.cells; have hy := hSw.1.2.2.cells; go_simp; try with_reducible rfl)
    try simp only [Act.put, gA, gZ, sA, sZ, sS]
    refine tk (i := 1) (v := ?_) rfl (by kernel_rfl) (fun _ _ _ h => h) (by rfl) ?_ (by assumption) ?_
    rotate_left
    · (intro W hSw; have hz := hSw.1.2.1.cells; have hy := hSw.1.2.2.cells; go_simp; try with_reducible rfl)
    try simp only [Act.put, gA, gS, gZ, sA, sZ, sS]
    refine tk (i := 2) (v := ?_) rfl (by kernel_rfl) (fun _ _ _ h => h) (by rfl) ?_ (by assumption) ?_
    rotate_left
    · (intro W hSw; have hz := hSw.1.2.1.cells; have hy := hSw.1.2.2.cells; go_simp; try with_reducible rfl)
    try simp only [Act.put, gA, gS, gZ, sA, sZ, sS]
    refine tk (i := 3) (v := ?_) rfl (by kernel_rfl) (fun _ _ _ h => h) (by rfl) ?_ (by assumption) ?_
    rotate_left
    · (intro W hSw; have hz := hSw.1.2.1.cells; have hy := hSw.1.2.2.cells; go_simp; try with_reducible rfl)
    try simp only [Act.put, gA, gS, gZ, sA, sZ, sS]
    refine tk (i := 4) (v := ?_) rfl (by kernel_rfl) (fun _ _ _ h => h) (by rfl) ?_ (by assumption) ?_
    rotate_left
    · (intro W hSw; have hz := hSw.1.2.1.cells; have hy := hSw.1.2.2.cells; go_simp; try with_reducible rfl)
    try simp only [Act.put, gA, gS, gZ, sA, sZ, sS]
    refine tk (i := 5) (v := ?_) rfl (by kernel_rfl) (fun _ _ _ h => h) (by rfl) ?_ (by assumption) ?_
    rotate_left
    · (intro W hSw; have hz := hSw.1.2.1.cells; have hy := hSw.1.2.2.cells; go_simp; try with_reducible rfl)
    try simp only [Act.put, gA, gS, gZ, sA, sZ, sS]
    refine tk (i := 6) (v := ?_) rfl (by kernel_rfl) (fun _ _ _ h => h) (by rfl) ?_ (by assumption) ?_
    rotate_left
    · (intro W hSw; have hz := hSw.1.2.1.cells; have hy := hSw.1.2.2.cells; go_simp; try with_reducible rfl)
    try simp only [Act.put, gA, gS, gZ, sA, sZ, sS]
    refine tk (i := 7) (v := ?_) rfl (by kernel_rfl) (fun _ _ _ h => h) (by rfl) ?_ (by assumption) ?_
    rotate_left
    · (intro W hSw; have hz := hSw.1.2.1.cells; have hy := hSw.1.2.2.cells; go_simp; try with_reducible rfl)
    try simp only [Act.put, gA, gS, gZ, sA, sZ, sS]
    refine tk (i := 8) (v := ?_) rfl (by kernel_rfl) (fun _ _ _ h => h) (by rfl) ?_ (by assumption) ?_
    rotate_left
    · (intro W hSw; have hz := hSw.1.2.1.cells; have hy := hSw.1.2.2.cells; go_simp; try with_reducible rfl)
    try simp only [Act.put, gA, gS, gZ, sA, sZ, sS]
    refine tk (i := 9) (v := ?_) rfl (by kernel_rfl) (fun _ _ _ h => h) (by rfl) ?_ (by assumption) ?_
    rotate_left
    · (intro W hSw; have hz := hSw.1.2.1.cells; have hy := hSw.1.2.2.cells; go_simp; try with_reducible rfl)
    try simp only [Act.put, gA, gS, gZ, sA, sZ, sS]
    refine tk (i := 10) (v := ?_) rfl (by kernel_rfl) (fun _ _ _ h => h) (by rfl) ?_ (by assumption) ?_
    rotate_left
    · (intro W hSw; have hz := hSw.1.2.1.cells; have hy := hSw.1.2.2.cells; go_simp; try with_reducible rfl)
    try simp only [Act.put, gA, gS, gZ, sA, sZ, sS]
    refine tk (i := 11) (v := ?_) rfl (by kernel_rfl) (fun _ _ _ h => h) (by rfl) ?_ (by assumption) ?_
    rotate_left
    · (intro W hSw; have hz := hSw.1.2.1.cells; have hy := hSw.1.2.2.cells; go_simp; try with_reducible rfl)
    try simp only [Act.put, gA, gS, gZ, sA, sZ, sS]
    refine tk (i := 12) (v := ?_) rfl (by kernel_rfl) (fun _ _ _ h => h) (by rfl) ?_ (by assumption) ?_
    rotate_left
    · (intro W hSw; have hz := hSw.1.2.1.cells; have hy := hSw.1.2.2.cells; go_simp; try with_reducible rfl)
    try simp only [Act.put, gA, gS, gZ, sA, sZ, sS]
    refine tk (i := 13) (v := ?_) rfl (by kernel_rfl) (fun _ _ _ h => h) (by rfl) ?_ (by assumption) ?_
    rotate_left
    · (intro W hSw; have hz := hSw.1.2.1.cells; have hy := hSw.1.2.2.cells; go_simp; try with_reducible rfl)
    try simp only [Act.put, gA, gS, gZ, sA, sZ, sS]
    refine wpAnyH_done (by kernel_rfl) ?_ _
    have H7 := Lib.hid (PO.drew H6.out)
    clear hHeld H6
    obtain ⟨w7, hw7⟩ : ∃ X, X = w6.drew := ⟨_, rfl⟩
    rw [← hw7] at H7 ⊢
    clear hw7
    go_wp2
    go_ret2
    exact EK.out 19 _ (by decide) (by unfold recvC; rw [HBf.out, if_neg (by decide), hcl, if_neg (by decide), HBr.out, if_neg (by decide), HBl.out, if_neg (by decide), HBk.out, if_neg (by decide), HCe.out, HDe.out, if_neg (fun e => e HEq.out), if_pos ⟨hor, hnk⟩]) H7.out.1.1
  have hne2 : (p.s != s.rc) = false := by simp [hnk]
  obtain ⟨y, hy⟩ : ∃ y, y = s.rc + 1 := ⟨_, rfl⟩
  have hw : IntKind.u64.wrap (s.rc + 1) = y := by
    have h1 := HCc.out.1
    have h2 := HCc.out.2 HBk.out
    rw [hy]; exact IntWalk.u64_in _ ⟨by omega, by omega⟩
  have HY := Lib.hid (And.intro hy hw)
  have HNk := Lib.hid hnk
  clear hy hw hnk
  have hA := Sha.ack_any p (by have := HRt.out.2.2.2; omega)
  have hOf := of_g (Sha.ackS p.d) (by rw [Sha.ackS_size]; decide)
  have hrs : ∀ q : St, q = q := fun _ => rfl
  obtain ⟨A, hAe⟩ : ∃ A, A = Sha.ackS p.d := ⟨_, rfl⟩
  obtain ⟨Q, hQ⟩ : ∃ Q, Q = ackP (Sha.ackS p.d) := ⟨_, rfl⟩
  have hQo : SumOk Q := hQ ▸ ackP_ok _
  rw [← hQ, ← hAe] at hOf
  rw [← hAe] at hA
  have HA := Lib.hid hA
  have HOf := Lib.hid hOf
  have HQ := Lib.hid (And.intro hQ (And.intro hAe hQo))
  clear hA hOf hrs hQ hAe hQo
  go_upto_region 9 with fail
  refine wp_region_held_drew (S := PO w p E M N s E2 M2 N2 s2) (by kernel_rfl) (PO.drew H6.out) (fun hHeld => ?_)
  refine tk (i := 0) (v := ?_) rfl (by kernel_rfl) (fun _ _ _ h => h) (by rfl) ?_ (by assumption) ?_
  rotate_left
  · (intro W hSw; have hz := hSw.1.2.1.cells; have hy := hSw.1.2.2.cells; go_simp; try with_reducible rfl)
  try simp only [Act.put, gA, gZ, sA, sZ, sS]
  refine tk (i := 1) (v := ?_) rfl (by kernel_rfl) (fun _ _ _ h => h) (by rfl) ?_ (by assumption) ?_
  rotate_left
  · (intro W hSw; have hz := hSw.1.2.1.cells; have hy := hSw.1.2.2.cells; go_simp; try with_reducible rfl)
  try simp only [Act.put, gA, gS, gZ, sA, sZ, sS]
  refine tk (i := 2) (v := ?_) rfl (by kernel_rfl) (fun _ _ _ h => h) (by rfl) ?_ (by assumption) ?_
  rotate_left
  · (intro W hSw; have hz := hSw.1.2.1.cells; have hy := hSw.1.2.2.cells; go_simp; try with_reducible rfl)
  try simp only [Act.put, gA, gS, gZ, sA, sZ, sS]
  refine tk (i := 3) (v := ?_) rfl (by kernel_rfl) (fun _ _ _ h => h) (by rfl) ?_ (by assumption) ?_
  rotate_left
  · (intro W hSw; have hz := hSw.1.2.1.cells; have hy := hSw.1.2.2.cells; go_simp; try with_reducible rfl)
  try simp only [Act.put, gA, gS, gZ, sA, sZ, sS]
  refine tk (i := 4) (v := ?_) rfl (by kernel_rfl) (fun _ _ _ h => h) (by rfl) ?_ (by assumption) ?_
  rotate_left
  · (intro W hSw; have hz := hSw.1.2.1.cells; have hy := hSw.1.2.2.cells; go_simp; try with_reducible rfl)
  try simp only [Act.put, gA, gS, gZ, sA, sZ, sS]
  refine tk (i := 5) (v := ?_) rfl (by kernel_rfl) (fun _ _ _ h => h) (by rfl) ?_ (by assumption) ?_
  rotate_left
  · (intro W hSw; have hz := hSw.1.2.1.cells; have hy := hSw.1.2.2.cells; go_simp; try with_reducible rfl)
  try simp only [Act.put, gA, gS, gZ, sA, sZ, sS]
  refine tk (i := 6) (v := ?_) rfl (by kernel_rfl) (fun _ _ _ h => h) (by rfl) ?_ (by assumption) ?_
  rotate_left
  · (intro W hSw; have hz := hSw.1.2.1.cells; have hy := hSw.1.2.2.cells; go_simp; try with_reducible rfl)
  try simp only [Act.put, gA, gS, gZ, sA, sZ, sS]
  refine tk (i := 7) (v := ?_) rfl (by kernel_rfl) (fun _ _ _ h => h) (by rfl) ?_ (by assumption) ?_
  rotate_left
  · (intro W hSw; have hz := hSw.1.2.1.cells; have hy := hSw.1.2.2.cells; go_simp; try with_reducible rfl)
  try simp only [Act.put, gA, gS, gZ, sA, sZ, sS]
  refine tk (i := 8) (v := ?_) rfl (by kernel_rfl) (fun _ _ _ h => h) (by rfl) ?_ (by assumption) ?_
  rotate_left
  · (intro W hSw; have hz := hSw.1.2.1.cells; have hy := hSw.1.2.2.cells; go_simp; try with_reducible rfl)
  try simp only [Act.put, gA, gS, gZ, sA, sZ, sS]
  refine tk (i := 9) (v := ?_) rfl (by kernel_rfl) (fun _ _ _ h => h) (by rfl) ?_ (by assumption) ?_
  rotate_left
  · (intro W hSw; have hz := hSw.1.2.1.cells; have hy := hSw.1.2.2.cells; go_simp; try with_reducible rfl)
  try simp only [Act.put, gA, gS, gZ, sA, sZ, sS]
  refine tk (i := 10) (v := ?_) rfl (by kernel_rfl) (fun _ _ _ h => h) (by rfl) ?_ (by assumption) ?_
  rotate_left
  · (intro W hSw; have hz := hSw.1.2.1.cells; have hy := hSw.1.2.2.cells; go_simp; try with_reducible rfl)
  try simp only [Act.put, gA, gS, gZ, sA, sZ, sS]
  refine tk (i := 11) (v := ?_) rfl (by kernel_rfl) (fun _ _ _ h => h) (by rfl) ?_ (by assumption) ?_
  rotate_left
  · (intro W hSw; have hz := hSw.1.2.1.cells; have hy := hSw.1.2.2.cells; go_simp; try with_reducible rfl)
  try simp only [Act.put, gA, gS, gZ, sA, sZ, sS]
  refine tk (i := 12) (v := ?_) rfl (by kernel_rfl) (fun _ _ _ h => h) (by rfl) ?_ (by assumption) ?_
  rotate_left
  · (intro W hSw; have hz := hSw.1.2.1.cells; have hy := hSw.1.2.2.cells; go_simp; try with_reducible rfl)
  try simp only [Act.put, gA, gS, gZ, sA, sZ, sS]
  refine tk (i := 13) (v := ?_) rfl (by kernel_rfl) (fun _ _ _ h => h) (by rfl) ?_ (by assumption) ?_
  rotate_left
  · (intro W hSw; have hz := hSw.1.2.1.cells; have hy := hSw.1.2.2.cells; go_simp; try with_reducible rfl)
  try simp only [Act.put, gA, gS, gZ, sA, sZ, sS]
  refine wpAnyH_done (by kernel_rfl) ?_ _
  have H7 := Lib.hid (PO.drew H6.out)
  clear hHeld H6
  obtain ⟨w7, hw7⟩ : ∃ X, X = w6.drew := ⟨_, rfl⟩
  rw [← hw7] at H7 ⊢
  clear hw7
  obtain ⟨h0, h1, h2, h3, h4, hf0⟩ := H7.out.1.2.1.cells
  obtain ⟨e0, e1, e2, e3, e4, e5, e6, e7, e8, hf1⟩ := H7.out.1.2.2.cells
  have hw := HY.out.2
  go_upto_region 17 with fail
  clear h0 h1 h2 h3 h4 hf0 e0 e1 e2 e3 e4 e5 e6 e7 e8 hf1 hne2 hw
  have ho := onB_setCell w7 E 5 (.int .u64 y)
  have hE := HEl.out
  have hl8 : LG (w7.setCell ⟨E, 5, none⟩ (.int .u64 y)) E M N { s with rc := s.rc + 1 } := by
    refine ⟨?_, H7.out.1.2.2.com.of_eq (ho.block _ H7.out.1.2.2.em.symm), H7.out.1.2.2.ack.of_eq (ho.block _ hE.2.1.symm), hE.2.2.1, hE.2.2.2.1, hE.2.2.2.2⟩
    have := set_at (i := 5) (.int .u64 y) H7.out.1.2.2.box
    rw [HY.out.1] at this
    rw [HY.out.1]
    exact this
  have hfr : FrL E M N w (w7.setCell ⟨E, 5, none⟩ (.int .u64 y)) := (FrL.of_below H7.out.1.1).onB ho (.inl rfl)
  have hpk : PkB (w7.setCell ⟨E, 5, none⟩ (.int .u64 y)) w.heap.size p := (ho.block _ (by have := hE.1.1; omega)).trans H7.out.1.2.1
  obtain ⟨w8, hw8⟩ : ∃ X, X = w7.setCell ⟨E, 5, none⟩ (.int .u64 y) := ⟨_, rfl⟩
  rw [← hw8] at hl8 hfr hpk ⊢
  have HK := Lib.hid (And.intro hl8 (And.intro hfr hpk))
  clear hw8 ho hE hl8 hfr hpk
  obtain ⟨h0, h1, h2, h3, h4, hf0⟩ := HK.out.2.2.cells
  go_wp2_with fail
  refine (HA.out _ (HK.out.2.1.tab HT.out HL0.out)).mono ?_
  rintro _ wa ⟨rfl, ba⟩
  have HZ : Hid (PR w p E M N { s with rc := s.rc + 1 } wa) := Lib.hid ⟨HK.out.2.1.call ba, HK.out.2.2.below ba, (HK.out.1.below ba).box, (HK.out.1.below ba).com⟩
  have HTa := Lib.hid (Sha.tab_below (HK.out.2.1.tab HT.out HL0.out) ba)
  have HN := Lib.hid (HK.out.1.below ba).ack
  clear h0 h1 h2 h3 h4 hf0 HK ba
  go_upto_region 18 with fail
  refine wp_region_held_drew (S := PR w p E M N { s with rc := s.rc + 1 }) (by kernel_rfl) (PR.drew HZ.out) (fun hHeld => ?_)
  refine tk (i := 0) (v := ?_) rfl (by kernel_rfl) (fun _ _ _ h => h) (by rfl) ?_ (by assumption) ?_
  rotate_left
  · (intro W hSw; have hz := hSw.2.1.cells; have e8 := hSw.cells; go_simp; try with_reducible rfl)
  try simp only [Act.put, gA, gZ, sA, sZ, sS]
  refine tk (i := 1) (v := ?_) rfl (by kernel_rfl) (fun _ _ _ h => h) (by rfl) ?_ (by assumption) ?_
  rotate_left
  · (intro W hSw; have hz := hSw.2.1.cells; have e8 := hSw.cells; go_simp; try with_reducible rfl)
  try simp only [Act.put, gA, gS, gZ, sA, sZ, sS]
  refine tk (i := 2) (v := ?_) rfl (by kernel_rfl) (fun _ _ _ h => h) (by rfl) ?_ (by assumption) ?_
  rotate_left
  · (intro W hSw; have hz := hSw.2.1.cells; have e8 := hSw.cells; go_simp; try with_reducible rfl)
  try simp only [Act.put, gA, gS, gZ, sA, sZ, sS]
  refine tk (i := 3) (v := ?_) rfl (by kernel_rfl) (fun _ _ _ h => h) (by rfl) ?_ (by assumption) ?_
  rotate_left
  · (intro W hSw; have hz := hSw.2.1.cells; have e8 := hSw.cells; go_simp; try with_reducible rfl)
  try simp only [Act.put, gA, gS, gZ, sA, sZ, sS]
  refine tk (i := 4) (v := ?_) rfl (by kernel_rfl) (fun _ _ _ h => h) (by rfl) ?_ (by assumption) ?_
  rotate_left
  · (intro W hSw; have hz := hSw.2.1.cells; have e8 := hSw.cells; go_simp; try with_reducible rfl)
  try simp only [Act.put, gA, gS, gZ, sA, sZ, sS]
  refine tk (i := 5) (v := ?_) rfl (by kernel_rfl) (fun _ _ _ h => h) (by rfl) ?_ (by assumption) ?_
  rotate_left
  · (intro W hSw; have hz := hSw.2.1.cells; have e8 := hSw.cells; go_simp; try with_reducible rfl)
  try simp only [Act.put, gA, gS, gZ, sA, sZ, sS]
  refine tk (i := 6) (v := ?_) rfl (by kernel_rfl) (fun _ _ _ h => h) (by rfl) ?_ (by assumption) ?_
  rotate_left
  · (intro W hSw; have hz := hSw.2.1.cells; have e8 := hSw.cells; go_simp; try with_reducible rfl)
  try simp only [Act.put, gA, gS, gZ, sA, sZ, sS]
  refine wpAnyH_ready (rs := [7]) (by kernel_rfl) (by simp) ?_
  refine AllReadyH.cons rfl (fun K hK => ?_) AllReadyH.nil
  simp only [gA, gS, gZ]
  rw [if_pos (by rfl)]
  go_simp
  refine hK.out _ _ (PR.call hHeld ((Below.refl _ _).alloc (Nat.le_refl _) _)) (fun hHeld => ?_)
  clear hK K
  try simp only [Act.put, gA, gS, gZ, sA, sZ, sS]
  have hbx : Below wa.heap.size wa (wa.alloc (.cells #[.string A] 9)).drew := ((Below.refl _ _).alloc (Nat.le_refl _) _).drew
  have HBx := Lib.hid hbx
  clear hbx
  refine wpAnyH_ready (rs := [8]) (by kernel_rfl) (by simp) ?_
  refine AllReadyH.cons rfl (fun K hK => ?_) AllReadyH.nil
  simp only [gA, gS, gZ]
  rw [if_pos (by rfl)]
  go_simp
  (refine (HOf.out _ _ (Sha.tab_below HTa.out HBx.out) (by simp) (by simp)).mono ?_; rintro e wo ⟨rfl, hbo⟩)
  go_wp2_with fail
  refine hK.out _ _ (PR.call hHeld hbo) (fun hHeld => ?_)
  clear hK K
  try simp only [Act.put, gA, gS, gZ, sA, sZ, sS]
  have HBo := Lib.hid (HBx.out.trans (hbo.mono HBx.out.size))
  obtain ⟨wd, hput, hmg, hon⟩ := put_run ks_ok p.s Q N s.ac wo (HN.out.below HBo.out)
  have hput' : (Instr.mapUpdate TMp (.map (some N)) (.int .u64 p.s) (.agg Q)).run Tryz.prog wo = .ok () wd := hput
  have HG := Lib.hid hmg
  have HO := Lib.hid hon
  clear hput hmg hon
  refine wpAnyH_ready (rs := [9]) (by kernel_rfl) (by simp) ?_
  refine AllReadyH.cons rfl (fun K hK => ?_) AllReadyH.nil
  simp only [gA, gS, gZ]
  rw [if_pos (by rfl)]
  go_simp
  refine hK.out _ _ (PR.on hHeld HO.out HEl.out.1.2.2 HEl.out.2.1 HEl.out.2.2.1) (fun hHeld => ?_)
  clear hK K
  try simp only [Act.put, gA, gS, gZ, sA, sZ, sS]
  refine wpAnyH_done (by kernel_rfl) ?_ _
  have H9 := Lib.hid hHeld
  clear hput' hHeld hbo HBx HBo HZ HN HTa
  go_wp2
  go_ret2
  have hz : recvC s s2 p x h = 0 := by unfold recvC; rw [HBf.out, if_neg (by decide), hcl, if_neg (by decide), HBr.out, if_neg (by decide), HBl.out, if_neg (by decide), HBk.out, if_neg (by decide), HCe.out, HDe.out, if_neg (fun e => e HEq.out), if_neg (fun e => e.2 HNk.out)]
  have hS : recvS s s2 p x h = recO p s := by unfold recvS; rw [if_pos hz]; rw [if_pos hor]
  have hT' : recvT s s2 p x h = A := by unfold recvT; rw [if_pos hz]; exact HQ.out.2.1.symm
  rw [hz, hS, hT']
  refine ⟨rfl, ⟨H9.out.2.2.1, H9.out.2.2.2, ?_, HEl.out.2.2.1, HEl.out.2.2.2.1, fun x hx => ?_⟩, H9.out.1⟩
  · have := HG.out
    rw [HQ.out.1] at this
    exact this
  · rcases mem_ins hx with rfl | hx
    · exact ackP_ok _
    · exact HEl.out.2.2.2.2 x hx
end Go.Proofs.YtdljphbfbiganaaGreatDoor.Lg
