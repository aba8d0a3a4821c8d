/- line: what an end does when a packet comes. -/
import Derived.Test.YtdljphbfbiganaaDoorLgAck
namespace Go.Proofs.YtdljphbfbiganaaDoor.Lg
open Go Go.RowKit Packet Ln Mg
set_option linter.unusedVariables false

/-- behind the receipt -/
def PR (w : World) (p : P5) (E M N : Nat) (s : St) (W : World) : Prop := FrL E M N w W ∧ PkB W w.heap.size p ∧ W.heap[E]? = some (.cells #[.int .i64 s.ch, .int .i64 s.sd, .bool s.o, .bool s.cl, .int .u64 s.sn, .int .u64 s.rc, .int .u64 s.ak, .map (some M), .map (some N)] TLn (0, 0)) ∧ MG KS W M s.cm
section
variable {w W V : World} {E M N : Nat} {p : P5} {s : St}
theorem PR.drew (h : PR w p E M N s W) : PR w p E M N s W.drew := ⟨h.1.call (Below.refl _ _).drew, h.2.1, h.2.2.1, h.2.2.2.below (Below.refl _ _).drew⟩
theorem PR.call (h : PR w p E M N s W) (hb : Below W.heap.size W V) : PR w p E M N s V := ⟨h.1.call hb, h.2.1.below hb, (hb.block _ (lt_of h.2.2.1)).trans h.2.2.1, h.2.2.2.below hb⟩
theorem PR.on (h : PR w p E M N s W) (ho : OnB N W V) (hN : N < w.heap.size) (hE : E ≠ N) (hM : M ≠ N) : PR w p E M N s V :=
  ⟨h.1.onB ho (.inr (.inr (.inl rfl))), (ho.block _ (by omega)).trans h.2.1, (ho.block _ hE).trans h.2.2.1, h.2.2.2.of_eq (ho.block _ hM)⟩
theorem PR.cells (h : PR w p E M N s W) : W.cell? ⟨E, 8, none⟩ = some (.map (some N)) :=
  cell_of_row W E 8 _ _ (0, 0) h.2.2.1
end
theorem FrL.tab {E M N : Nat} {w W : World} {s : St} (h : FrL E M N w W) (ht : Sha.Tab w) (hl : LG w E M N s) : Sha.Tab W := by
  have ht' : w.var? Tryd.prog "muleteer/sha.constants" = some (Sha.constI.map fun z => Value.int .u32 z).toArray := ht
  show W.var? Tryd.prog "muleteer/sha.constants" = some (Sha.constI.map fun z => Value.int .u32 z).toArray
  unfold World.var? at ht' ⊢
  rw [Sha.tab_global] at ht' ⊢
  simp only [Option.bind_some] at ht' ⊢
  cases hg : w.heap[0]? with
  | none => rw [hg] at ht'; cases ht'
  | some o =>
    rw [hg] at ht'
    cases o with
    | cells cs t q =>
      have hcs : cs = (Sha.constI.map fun z => Value.int .u32 z).toArray := by simpa using ht'
      have hE : 0 ≠ E := fun e => by
        have hb := hl.box
        rw [← e, hg] at hb
        have := congrArg (fun o => match o with | some (Obj.cells c _ _) => c.size | _ => 0) hb
        simp only [hcs] at this
        rw [List.size_toArray, List.length_map, Sha.constI_len] at this
        cases this
      have hM : 0 ≠ M := mg_ne hl.com hg
      have hN : 0 ≠ N := mg_ne hl.ack hg
      rw [h.block _ (lt_of hg) hE hM hN, hg]
      simpa using hcs
    | _ => cases ht'
/-- the end behind it -/
def recU (p : P5) (s : St) : St := { s with ac := ins p.s (ackP (Sha.ackS p.d)) s.ac }
def recO (p : P5) (s : St) : St := { s with ac := ins p.s (ackP (Sha.ackS p.d)) s.ac, rc := s.rc + 1 }
set_option maxRecDepth 20000 in
set_option maxHeartbeats 4000000 in
theorem recv_unfit {w : World} {E M N E2 M2 N2 : Nat} {s s2 : St} (p : P5) (h x : Int) (hT : Sha.Tab w) (hL : LG w E M N s) (hO : LG w E2 M2 N2 s2) (hx : IntKind.i64.wrap (1 - s.sd) = x) (hfb : fitG s p x = false) :
    Calls Tryd.prog 9 #[.pointer (some ⟨E, 0, none⟩), pkv p, .int .u64 h, .pointer (some ⟨E2, 0, none⟩)] w fun e w' => e = .returned (.tuple #[.string ⟨#[]⟩, .int .i64 1]) ∧ Below w.heap.size w w' := by
  have HF := Lib.hid (fun W (hW : LG W E M N s) => hfb ▸ fits_g p x hW)
  have H0 := Lib.hid (PO.new (p := p) hL hO)
  have HEl := Lib.hid (And.intro hL.lt (And.intro hL.en (And.intro hL.mn (And.intro hL.cok hL.aok))))
  have HT := Lib.hid hT
  have HL0 := Lib.hid hL
  clear hfb hL hO hT
  go_enter Tryd.func9, Tryd.ntmps9
  go_upto_region 1 with fail
  refine wp_region_held_drew (S := PO w p E M N s E2 M2 N2 s2) (by kernel_rfl) (PO.drew H0.out) (fun hHeld => ?_)
  refine wpAnyH_take (i := 0) (oi := _) (v := ?_) rfl (by kernel_rfl) (by kernel_rfl) (by kernel_rfl) (fun _ _ _ h => h) (Or.inl ⟨by rfl, ?_⟩) (by assumption) ?_
  rotate_left
  · (intro W hSw; obtain ⟨h0, h1, h2, h3, h4, hf0⟩ := hSw.1.2.1.cells; obtain ⟨e0, e1, e2, e3, e4, e5, e6, e7, e8, hf1⟩ := hSw.1.2.2.cells; go_simp; try with_reducible rfl)
  try simp only [Act.put, List.getElem_toArray, List.getElem_cons_zero, List.setIfInBounds_toArray, List.set_cons_zero, List.set_cons_succ]
  refine wpAnyH_ready (rs := [1]) (by kernel_rfl) (by simp) ?_
  refine AllReadyH.cons rfl (fun K hK => ?_) AllReadyH.nil
  simp only [List.getElem_toArray, List.getElem_cons_succ, List.getElem_cons_zero]
  rw [if_pos (by rfl)]
  go_simp
  (refine (made_g hHeld.1.2.2).mono ?_; rintro e w1 ⟨rfl, hw⟩; obtain rfl := hw.symm; clear hw)
  go_wp2_with fail
  refine hK.out _ _ hHeld (fun hHeld => ?_)
  clear hK K
  try simp only [Act.put, List.getElem_toArray, List.getElem_cons_succ, List.getElem_cons_zero, List.setIfInBounds_toArray, List.set_cons_zero, List.set_cons_succ]
  refine wpAnyH_take (i := 2) (oi := _) (v := ?_) rfl (by kernel_rfl) (by kernel_rfl) (by kernel_rfl) (fun _ _ _ h => h) (Or.inl ⟨by rfl, ?_⟩) (by assumption) ?_
  rotate_left
  · (intro W hSw; obtain ⟨h0, h1, h2, h3, h4, hf0⟩ := hSw.1.2.1.cells; obtain ⟨e0, e1, e2, e3, e4, e5, e6, e7, e8, hf1⟩ := hSw.1.2.2.cells; go_simp; try with_reducible rfl)
  try simp only [Act.put, List.getElem_toArray, List.getElem_cons_succ, List.getElem_cons_zero, List.setIfInBounds_toArray, List.set_cons_zero, List.set_cons_succ]
  refine wpAnyH_take (i := 3) (oi := _) (v := ?_) rfl (by kernel_rfl) (by kernel_rfl) (by kernel_rfl) (fun _ _ _ h => h) (Or.inl ⟨by rfl, ?_⟩) (by assumption) ?_
  rotate_left
  · (intro W hSw; obtain ⟨h0, h1, h2, h3, h4, hf0⟩ := hSw.1.2.1.cells; obtain ⟨e0, e1, e2, e3, e4, e5, e6, e7, e8, hf1⟩ := hSw.1.2.2.cells; go_simp; try with_reducible rfl)
  try simp only [Act.put, List.getElem_toArray, List.getElem_cons_succ, List.getElem_cons_zero, List.setIfInBounds_toArray, List.set_cons_zero, List.set_cons_succ]
  refine wpAnyH_take (i := 4) (oi := _) (v := ?_) rfl (by kernel_rfl) (by kernel_rfl) (by kernel_rfl) (fun _ _ _ h => h) (Or.inl ⟨by rfl, ?_⟩) (by assumption) ?_
  rotate_left
  · (intro W hSw; obtain ⟨h0, h1, h2, h3, h4, hf0⟩ := hSw.1.2.1.cells; obtain ⟨e0, e1, e2, e3, e4, e5, e6, e7, e8, hf1⟩ := hSw.1.2.2.cells; go_simp; try with_reducible rfl)
  try simp only [Act.put, List.getElem_toArray, List.getElem_cons_succ, List.getElem_cons_zero, List.setIfInBounds_toArray, List.set_cons_zero, List.set_cons_succ]
  refine wpAnyH_ready (rs := [5]) (by kernel_rfl) (by simp) ?_
  refine AllReadyH.cons rfl (fun K hK => ?_) AllReadyH.nil
  simp only [List.getElem_toArray, List.getElem_cons_succ, List.getElem_cons_zero]
  rw [if_pos (by rfl)]
  go_simp
  (refine (made_g hHeld.2).mono ?_; rintro e w1 ⟨rfl, hw⟩; obtain rfl := hw.symm; clear hw)
  go_wp2_with fail
  refine hK.out _ _ hHeld (fun hHeld => ?_)
  clear hK K
  try simp only [Act.put, List.getElem_toArray, List.getElem_cons_succ, List.getElem_cons_zero, List.setIfInBounds_toArray, List.set_cons_zero, List.set_cons_succ]
  refine wpAnyH_take (i := 6) (oi := _) (v := ?_) rfl (by kernel_rfl) (by kernel_rfl) (by kernel_rfl) (fun _ _ _ h => h) (Or.inl ⟨by rfl, ?_⟩) (by assumption) ?_
  rotate_left
  · (intro W hSw; obtain ⟨h0, h1, h2, h3, h4, hf0⟩ := hSw.1.2.1.cells; obtain ⟨e0, e1, e2, e3, e4, e5, e6, e7, e8, hf1⟩ := hSw.1.2.2.cells; go_simp; try with_reducible rfl)
  try simp only [Act.put, List.getElem_toArray, List.getElem_cons_succ, List.getElem_cons_zero, List.setIfInBounds_toArray, List.set_cons_zero, List.set_cons_succ]
  refine wpAnyH_take (i := 7) (oi := _) (v := ?_) rfl (by kernel_rfl) (by kernel_rfl) (by kernel_rfl) (fun _ _ _ h => h) (Or.inl ⟨by rfl, ?_⟩) (by assumption) ?_
  rotate_left
  · (intro W hSw; obtain ⟨h0, h1, h2, h3, h4, hf0⟩ := hSw.1.2.1.cells; obtain ⟨e0, e1, e2, e3, e4, e5, e6, e7, e8, hf1⟩ := hSw.1.2.2.cells; go_simp; try with_reducible rfl)
  try simp only [Act.put, List.getElem_toArray, List.getElem_cons_succ, List.getElem_cons_zero, List.setIfInBounds_toArray, List.set_cons_zero, List.set_cons_succ]
  refine wpAnyH_take (i := 8) (oi := _) (v := ?_) rfl (by kernel_rfl) (by kernel_rfl) (by kernel_rfl) (fun _ _ _ h => h) (Or.inl ⟨by rfl, ?_⟩) (by assumption) ?_
  rotate_left
  · (intro W hSw; obtain ⟨h0, h1, h2, h3, h4, hf0⟩ := hSw.1.2.1.cells; obtain ⟨e0, e1, e2, e3, e4, e5, e6, e7, e8, hf1⟩ := hSw.1.2.2.cells; go_simp; try with_reducible rfl)
  try simp only [Act.put, List.getElem_toArray, List.getElem_cons_succ, List.getElem_cons_zero, List.setIfInBounds_toArray, List.set_cons_zero, List.set_cons_succ]
  refine wpAnyH_take (i := 9) (oi := _) (v := ?_) rfl (by kernel_rfl) (by kernel_rfl) (by kernel_rfl) (fun _ _ _ h => h) (Or.inl ⟨by rfl, ?_⟩) (by assumption) ?_
  rotate_left
  · (intro W hSw; obtain ⟨h0, h1, h2, h3, h4, hf0⟩ := hSw.1.2.1.cells; obtain ⟨e0, e1, e2, e3, e4, e5, e6, e7, e8, hf1⟩ := hSw.1.2.2.cells; go_simp; try with_reducible rfl)
  try simp only [Act.put, List.getElem_toArray, List.getElem_cons_succ, List.getElem_cons_zero, List.setIfInBounds_toArray, List.set_cons_zero, List.set_cons_succ]
  refine wpAnyH_take (i := 10) (oi := _) (v := ?_) rfl (by kernel_rfl) (by kernel_rfl) (by kernel_rfl) (fun _ _ _ h => h) (Or.inl ⟨by rfl, ?_⟩) (by assumption) ?_
  rotate_left
  · (intro W hSw; obtain ⟨h0, h1, h2, h3, h4, hf0⟩ := hSw.1.2.1.cells; obtain ⟨e0, e1, e2, e3, e4, e5, e6, e7, e8, hf1⟩ := hSw.1.2.2.cells; go_simp; try with_reducible rfl)
  try simp only [Act.put, List.getElem_toArray, List.getElem_cons_succ, List.getElem_cons_zero, List.setIfInBounds_toArray, List.set_cons_zero, List.set_cons_succ]
  refine wpAnyH_take (i := 11) (oi := _) (v := ?_) rfl (by kernel_rfl) (by kernel_rfl) (by kernel_rfl) (fun _ _ _ h => h) (Or.inl ⟨by rfl, ?_⟩) (by assumption) ?_
  rotate_left
  · (intro W hSw; obtain ⟨h0, h1, h2, h3, h4, hf0⟩ := hSw.1.2.1.cells; obtain ⟨e0, e1, e2, e3, e4, e5, e6, e7, e8, hf1⟩ := hSw.1.2.2.cells; go_simp; try with_reducible rfl)
  try simp only [Act.put, List.getElem_toArray, List.getElem_cons_succ, List.getElem_cons_zero, List.setIfInBounds_toArray, List.set_cons_zero, List.set_cons_succ]
  refine wpAnyH_take (i := 12) (oi := _) (v := ?_) rfl (by kernel_rfl) (by kernel_rfl) (by kernel_rfl) (fun _ _ _ h => h) (Or.inl ⟨by rfl, ?_⟩) (by assumption) ?_
  rotate_left
  · (intro W hSw; obtain ⟨h0, h1, h2, h3, h4, hf0⟩ := hSw.1.2.1.cells; obtain ⟨e0, e1, e2, e3, e4, e5, e6, e7, e8, hf1⟩ := hSw.1.2.2.cells; go_simp; try with_reducible rfl)
  try simp only [Act.put, List.getElem_toArray, List.getElem_cons_succ, List.getElem_cons_zero, List.setIfInBounds_toArray, List.set_cons_zero, List.set_cons_succ]
  refine wpAnyH_take (i := 13) (oi := _) (v := ?_) rfl (by kernel_rfl) (by kernel_rfl) (by kernel_rfl) (fun _ _ _ h => h) (Or.inl ⟨by rfl, ?_⟩) (by assumption) ?_
  rotate_left
  · (intro W hSw; obtain ⟨h0, h1, h2, h3, h4, hf0⟩ := hSw.1.2.1.cells; obtain ⟨e0, e1, e2, e3, e4, e5, e6, e7, e8, hf1⟩ := hSw.1.2.2.cells; go_simp; try with_reducible rfl)
  try simp only [Act.put, List.getElem_toArray, List.getElem_cons_succ, List.getElem_cons_zero, List.setIfInBounds_toArray, List.set_cons_zero, List.set_cons_succ]
  refine wpAnyH_take (i := 14) (oi := _) (v := ?_) rfl (by kernel_rfl) (by kernel_rfl) (by kernel_rfl) (fun _ _ _ h => h) (Or.inl ⟨by rfl, ?_⟩) (by assumption) ?_
  rotate_left
  · (intro W hSw; obtain ⟨h0, h1, h2, h3, h4, hf0⟩ := hSw.1.2.1.cells; obtain ⟨e0, e1, e2, e3, e4, e5, e6, e7, e8, hf1⟩ := hSw.1.2.2.cells; go_simp; try with_reducible rfl)
  try simp only [Act.put, List.getElem_toArray, List.getElem_cons_succ, List.getElem_cons_zero, List.setIfInBounds_toArray, List.set_cons_zero, List.set_cons_succ]
  refine wpAnyH_take (i := 15) (oi := _) (v := ?_) rfl (by kernel_rfl) (by kernel_rfl) (by kernel_rfl) (fun _ _ _ h => h) (Or.inl ⟨by rfl, ?_⟩) (by assumption) ?_
  rotate_left
  · (intro W hSw; obtain ⟨h0, h1, h2, h3, h4, hf0⟩ := hSw.1.2.1.cells; obtain ⟨e0, e1, e2, e3, e4, e5, e6, e7, e8, hf1⟩ := hSw.1.2.2.cells; go_simp; try with_reducible rfl)
  try simp only [Act.put, List.getElem_toArray, List.getElem_cons_succ, List.getElem_cons_zero, List.setIfInBounds_toArray, List.set_cons_zero, List.set_cons_succ]
  refine wpAnyH_ready (rs := [16]) (by kernel_rfl) (by simp) ?_
  refine AllReadyH.cons rfl (fun K hK => ?_) AllReadyH.nil
  simp only [List.getElem_toArray, List.getElem_cons_succ, List.getElem_cons_zero]
  rw [if_pos (by rfl)]
  go_simp
  (refine (HF.out _ hHeld.1.2.2).mono ?_; rintro e w1 ⟨rfl, hb1⟩)
  go_wp2_with fail
  refine hK.out _ _ (PO.call hHeld hb1) (fun hHeld => ?_)
  clear hK K
  try simp only [Act.put, List.getElem_toArray, List.getElem_cons_succ, List.getElem_cons_zero, List.setIfInBounds_toArray, List.set_cons_zero, List.set_cons_succ]
  refine wpAnyH_take (i := 17) (oi := _) (v := ?_) rfl (by kernel_rfl) (by kernel_rfl) (by kernel_rfl) (fun _ _ _ h => h) (Or.inl ⟨by rfl, ?_⟩) (by assumption) ?_
  rotate_left
  · (intro W hSw; obtain ⟨h0, h1, h2, h3, h4, hf0⟩ := hSw.1.2.1.cells; obtain ⟨e0, e1, e2, e3, e4, e5, e6, e7, e8, hf1⟩ := hSw.1.2.2.cells; go_simp; try with_reducible rfl)
  try simp only [Act.put, List.getElem_toArray, List.getElem_cons_succ, List.getElem_cons_zero, List.setIfInBounds_toArray, List.set_cons_zero, List.set_cons_succ]
  refine wpAnyH_take (i := 18) (oi := _) (v := ?_) rfl (by kernel_rfl) (by kernel_rfl) (by kernel_rfl) (fun _ _ _ h => h) (Or.inl ⟨by rfl, ?_⟩) (by assumption) ?_
  rotate_left
  · (intro W hSw; obtain ⟨h0, h1, h2, h3, h4, hf0⟩ := hSw.1.2.1.cells; obtain ⟨e0, e1, e2, e3, e4, e5, e6, e7, e8, hf1⟩ := hSw.1.2.2.cells; go_simp; try with_reducible rfl)
  try simp only [Act.put, List.getElem_toArray, List.getElem_cons_succ, List.getElem_cons_zero, List.setIfInBounds_toArray, List.set_cons_zero, List.set_cons_succ]
  refine wpAnyH_done (by kernel_rfl) ?_ _
  have H1 := Lib.hid hHeld
  clear hHeld H0 hb1
  go_wp2
  go_ret2
  exact ⟨rfl, H1.out.1.1⟩
set_option maxRecDepth 20000 in
set_option maxHeartbeats 4000000 in
theorem recv_closed {w : World} {E M N E2 M2 N2 : Nat} {s s2 : St} (p : P5) (h x : Int) (hT : Sha.Tab w) (hL : LG w E M N s) (hO : LG w E2 M2 N2 s2) (hx : IntKind.i64.wrap (1 - s.sd) = x) (hfb : fitG s p x = true) (hcl : s.cl = true) :
    Calls Tryd.prog 9 #[.pointer (some ⟨E, 0, none⟩), pkv p, .int .u64 h, .pointer (some ⟨E2, 0, none⟩)] w fun e w' => e = .returned (.tuple #[.string ⟨#[]⟩, .int .i64 17]) ∧ Below w.heap.size w w' := by
  have hlk := fun W (hW : LG W E2 M2 N2 s2) => look_g p.s M2 s2.cm W hW.com
  have hC := sumOf_ok (k := p.s) hO.cok
  generalize sumOf p.s s2.cm = C at *
  have HLk := Lib.hid hlk
  have HC := Lib.hid hC
  clear hlk hC
  have HF := Lib.hid (fun W (hW : LG W E M N s) => hfb ▸ fits_g p x hW)
  have H0 := Lib.hid (PO.new (p := p) hL hO)
  have HEl := Lib.hid (And.intro hL.lt (And.intro hL.en (And.intro hL.mn (And.intro hL.cok hL.aok))))
  have HT := Lib.hid hT
  have HL0 := Lib.hid hL
  clear hfb hL hO hT
  go_enter Tryd.func9, Tryd.ntmps9
  go_upto_region 1 with fail
  refine wp_region_held_drew (S := PO w p E M N s E2 M2 N2 s2) (by kernel_rfl) (PO.drew H0.out) (fun hHeld => ?_)
  refine wpAnyH_take (i := 0) (oi := _) (v := ?_) rfl (by kernel_rfl) (by kernel_rfl) (by kernel_rfl) (fun _ _ _ h => h) (Or.inl ⟨by rfl, ?_⟩) (by assumption) ?_
  rotate_left
  · (intro W hSw; obtain ⟨h0, h1, h2, h3, h4, hf0⟩ := hSw.1.2.1.cells; obtain ⟨e0, e1, e2, e3, e4, e5, e6, e7, e8, hf1⟩ := hSw.1.2.2.cells; go_simp; try with_reducible rfl)
  try simp only [Act.put, List.getElem_toArray, List.getElem_cons_zero, List.setIfInBounds_toArray, List.set_cons_zero, List.set_cons_succ]
  refine wpAnyH_ready (rs := [1]) (by kernel_rfl) (by simp) ?_
  refine AllReadyH.cons rfl (fun K hK => ?_) AllReadyH.nil
  simp only [List.getElem_toArray, List.getElem_cons_succ, List.getElem_cons_zero]
  rw [if_pos (by rfl)]
  go_simp
  (refine (made_g hHeld.1.2.2).mono ?_; rintro e w1 ⟨rfl, hw⟩; obtain rfl := hw.symm; clear hw)
  go_wp2_with fail
  refine hK.out _ _ hHeld (fun hHeld => ?_)
  clear hK K
  try simp only [Act.put, List.getElem_toArray, List.getElem_cons_succ, List.getElem_cons_zero, List.setIfInBounds_toArray, List.set_cons_zero, List.set_cons_succ]
  refine wpAnyH_take (i := 2) (oi := _) (v := ?_) rfl (by kernel_rfl) (by kernel_rfl) (by kernel_rfl) (fun _ _ _ h => h) (Or.inl ⟨by rfl, ?_⟩) (by assumption) ?_
  rotate_left
  · (intro W hSw; obtain ⟨h0, h1, h2, h3, h4, hf0⟩ := hSw.1.2.1.cells; obtain ⟨e0, e1, e2, e3, e4, e5, e6, e7, e8, hf1⟩ := hSw.1.2.2.cells; go_simp; try with_reducible rfl)
  try simp only [Act.put, List.getElem_toArray, List.getElem_cons_succ, List.getElem_cons_zero, List.setIfInBounds_toArray, List.set_cons_zero, List.set_cons_succ]
  refine wpAnyH_take (i := 3) (oi := _) (v := ?_) rfl (by kernel_rfl) (by kernel_rfl) (by kernel_rfl) (fun _ _ _ h => h) (Or.inl ⟨by rfl, ?_⟩) (by assumption) ?_
  rotate_left
  · (intro W hSw; obtain ⟨h0, h1, h2, h3, h4, hf0⟩ := hSw.1.2.1.cells; obtain ⟨e0, e1, e2, e3, e4, e5, e6, e7, e8, hf1⟩ := hSw.1.2.2.cells; go_simp; try with_reducible rfl)
  try simp only [Act.put, List.getElem_toArray, List.getElem_cons_succ, List.getElem_cons_zero, List.setIfInBounds_toArray, List.set_cons_zero, List.set_cons_succ]
  refine wpAnyH_take (i := 4) (oi := _) (v := ?_) rfl (by kernel_rfl) (by kernel_rfl) (by kernel_rfl) (fun _ _ _ h => h) (Or.inl ⟨by rfl, ?_⟩) (by assumption) ?_
  rotate_left
  · (intro W hSw; obtain ⟨h0, h1, h2, h3, h4, hf0⟩ := hSw.1.2.1.cells; obtain ⟨e0, e1, e2, e3, e4, e5, e6, e7, e8, hf1⟩ := hSw.1.2.2.cells; go_simp; try with_reducible rfl)
  try simp only [Act.put, List.getElem_toArray, List.getElem_cons_succ, List.getElem_cons_zero, List.setIfInBounds_toArray, List.set_cons_zero, List.set_cons_succ]
  refine wpAnyH_ready (rs := [5]) (by kernel_rfl) (by simp) ?_
  refine AllReadyH.cons rfl (fun K hK => ?_) AllReadyH.nil
  simp only [List.getElem_toArray, List.getElem_cons_succ, List.getElem_cons_zero]
  rw [if_pos (by rfl)]
  go_simp
  (refine (made_g hHeld.2).mono ?_; rintro e w1 ⟨rfl, hw⟩; obtain rfl := hw.symm; clear hw)
  go_wp2_with fail
  refine hK.out _ _ hHeld (fun hHeld => ?_)
  clear hK K
  try simp only [Act.put, List.getElem_toArray, List.getElem_cons_succ, List.getElem_cons_zero, List.setIfInBounds_toArray, List.set_cons_zero, List.set_cons_succ]
  refine wpAnyH_take (i := 6) (oi := _) (v := ?_) rfl (by kernel_rfl) (by kernel_rfl) (by kernel_rfl) (fun _ _ _ h => h) (Or.inl ⟨by rfl, ?_⟩) (by assumption) ?_
  rotate_left
  · (intro W hSw; obtain ⟨h0, h1, h2, h3, h4, hf0⟩ := hSw.1.2.1.cells; obtain ⟨e0, e1, e2, e3, e4, e5, e6, e7, e8, hf1⟩ := hSw.1.2.2.cells; go_simp; try with_reducible rfl)
  try simp only [Act.put, List.getElem_toArray, List.getElem_cons_succ, List.getElem_cons_zero, List.setIfInBounds_toArray, List.set_cons_zero, List.set_cons_succ]
  refine wpAnyH_take (i := 7) (oi := _) (v := ?_) rfl (by kernel_rfl) (by kernel_rfl) (by kernel_rfl) (fun _ _ _ h => h) (Or.inl ⟨by rfl, ?_⟩) (by assumption) ?_
  rotate_left
  · (intro W hSw; obtain ⟨h0, h1, h2, h3, h4, hf0⟩ := hSw.1.2.1.cells; obtain ⟨e0, e1, e2, e3, e4, e5, e6, e7, e8, hf1⟩ := hSw.1.2.2.cells; go_simp; try with_reducible rfl)
  try simp only [Act.put, List.getElem_toArray, List.getElem_cons_succ, List.getElem_cons_zero, List.setIfInBounds_toArray, List.set_cons_zero, List.set_cons_succ]
  refine wpAnyH_take (i := 8) (oi := _) (v := ?_) rfl (by kernel_rfl) (by kernel_rfl) (by kernel_rfl) (fun _ _ _ h => h) (Or.inl ⟨by rfl, ?_⟩) (by assumption) ?_
  rotate_left
  · (intro W hSw; obtain ⟨h0, h1, h2, h3, h4, hf0⟩ := hSw.1.2.1.cells; obtain ⟨e0, e1, e2, e3, e4, e5, e6, e7, e8, hf1⟩ := hSw.1.2.2.cells; go_simp; try with_reducible rfl)
  try simp only [Act.put, List.getElem_toArray, List.getElem_cons_succ, List.getElem_cons_zero, List.setIfInBounds_toArray, List.set_cons_zero, List.set_cons_succ]
  refine wpAnyH_take (i := 9) (oi := _) (v := ?_) rfl (by kernel_rfl) (by kernel_rfl) (by kernel_rfl) (fun _ _ _ h => h) (Or.inl ⟨by rfl, ?_⟩) (by assumption) ?_
  rotate_left
  · (intro W hSw; obtain ⟨h0, h1, h2, h3, h4, hf0⟩ := hSw.1.2.1.cells; obtain ⟨e0, e1, e2, e3, e4, e5, e6, e7, e8, hf1⟩ := hSw.1.2.2.cells; go_simp; try with_reducible rfl)
  try simp only [Act.put, List.getElem_toArray, List.getElem_cons_succ, List.getElem_cons_zero, List.setIfInBounds_toArray, List.set_cons_zero, List.set_cons_succ]
  refine wpAnyH_take (i := 10) (oi := _) (v := ?_) rfl (by kernel_rfl) (by kernel_rfl) (by kernel_rfl) (fun _ _ _ h => h) (Or.inl ⟨by rfl, ?_⟩) (by assumption) ?_
  rotate_left
  · (intro W hSw; obtain ⟨h0, h1, h2, h3, h4, hf0⟩ := hSw.1.2.1.cells; obtain ⟨e0, e1, e2, e3, e4, e5, e6, e7, e8, hf1⟩ := hSw.1.2.2.cells; go_simp; try with_reducible rfl)
  try simp only [Act.put, List.getElem_toArray, List.getElem_cons_succ, List.getElem_cons_zero, List.setIfInBounds_toArray, List.set_cons_zero, List.set_cons_succ]
  refine wpAnyH_take (i := 11) (oi := _) (v := ?_) rfl (by kernel_rfl) (by kernel_rfl) (by kernel_rfl) (fun _ _ _ h => h) (Or.inl ⟨by rfl, ?_⟩) (by assumption) ?_
  rotate_left
  · (intro W hSw; obtain ⟨h0, h1, h2, h3, h4, hf0⟩ := hSw.1.2.1.cells; obtain ⟨e0, e1, e2, e3, e4, e5, e6, e7, e8, hf1⟩ := hSw.1.2.2.cells; go_simp; try with_reducible rfl)
  try simp only [Act.put, List.getElem_toArray, List.getElem_cons_succ, List.getElem_cons_zero, List.setIfInBounds_toArray, List.set_cons_zero, List.set_cons_succ]
  refine wpAnyH_take (i := 12) (oi := _) (v := ?_) rfl (by kernel_rfl) (by kernel_rfl) (by kernel_rfl) (fun _ _ _ h => h) (Or.inl ⟨by rfl, ?_⟩) (by assumption) ?_
  rotate_left
  · (intro W hSw; obtain ⟨h0, h1, h2, h3, h4, hf0⟩ := hSw.1.2.1.cells; obtain ⟨e0, e1, e2, e3, e4, e5, e6, e7, e8, hf1⟩ := hSw.1.2.2.cells; go_simp; try with_reducible rfl)
  try simp only [Act.put, List.getElem_toArray, List.getElem_cons_succ, List.getElem_cons_zero, List.setIfInBounds_toArray, List.set_cons_zero, List.set_cons_succ]
  refine wpAnyH_take (i := 13) (oi := _) (v := ?_) rfl (by kernel_rfl) (by kernel_rfl) (by kernel_rfl) (fun _ _ _ h => h) (Or.inl ⟨by rfl, ?_⟩) (by assumption) ?_
  rotate_left
  · (intro W hSw; obtain ⟨h0, h1, h2, h3, h4, hf0⟩ := hSw.1.2.1.cells; obtain ⟨e0, e1, e2, e3, e4, e5, e6, e7, e8, hf1⟩ := hSw.1.2.2.cells; go_simp; try with_reducible rfl)
  try simp only [Act.put, List.getElem_toArray, List.getElem_cons_succ, List.getElem_cons_zero, List.setIfInBounds_toArray, List.set_cons_zero, List.set_cons_succ]
  refine wpAnyH_take (i := 14) (oi := _) (v := ?_) rfl (by kernel_rfl) (by kernel_rfl) (by kernel_rfl) (fun _ _ _ h => h) (Or.inl ⟨by rfl, ?_⟩) (by assumption) ?_
  rotate_left
  · (intro W hSw; obtain ⟨h0, h1, h2, h3, h4, hf0⟩ := hSw.1.2.1.cells; obtain ⟨e0, e1, e2, e3, e4, e5, e6, e7, e8, hf1⟩ := hSw.1.2.2.cells; go_simp; try with_reducible rfl)
  try simp only [Act.put, List.getElem_toArray, List.getElem_cons_succ, List.getElem_cons_zero, List.setIfInBounds_toArray, List.set_cons_zero, List.set_cons_succ]
  refine wpAnyH_take (i := 15) (oi := _) (v := ?_) rfl (by kernel_rfl) (by kernel_rfl) (by kernel_rfl) (fun _ _ _ h => h) (Or.inl ⟨by rfl, ?_⟩) (by assumption) ?_
  rotate_left
  · (intro W hSw; obtain ⟨h0, h1, h2, h3, h4, hf0⟩ := hSw.1.2.1.cells; obtain ⟨e0, e1, e2, e3, e4, e5, e6, e7, e8, hf1⟩ := hSw.1.2.2.cells; go_simp; try with_reducible rfl)
  try simp only [Act.put, List.getElem_toArray, List.getElem_cons_succ, List.getElem_cons_zero, List.setIfInBounds_toArray, List.set_cons_zero, List.set_cons_succ]
  refine wpAnyH_ready (rs := [16]) (by kernel_rfl) (by simp) ?_
  refine AllReadyH.cons rfl (fun K hK => ?_) AllReadyH.nil
  simp only [List.getElem_toArray, List.getElem_cons_succ, List.getElem_cons_zero]
  rw [if_pos (by rfl)]
  go_simp
  (refine (HF.out _ hHeld.1.2.2).mono ?_; rintro e w1 ⟨rfl, hb1⟩)
  go_wp2_with fail
  refine hK.out _ _ (PO.call hHeld hb1) (fun hHeld => ?_)
  clear hK K
  try simp only [Act.put, List.getElem_toArray, List.getElem_cons_succ, List.getElem_cons_zero, List.setIfInBounds_toArray, List.set_cons_zero, List.set_cons_succ]
  refine wpAnyH_take (i := 17) (oi := _) (v := ?_) rfl (by kernel_rfl) (by kernel_rfl) (by kernel_rfl) (fun _ _ _ h => h) (Or.inl ⟨by rfl, ?_⟩) (by assumption) ?_
  rotate_left
  · (intro W hSw; obtain ⟨h0, h1, h2, h3, h4, hf0⟩ := hSw.1.2.1.cells; obtain ⟨e0, e1, e2, e3, e4, e5, e6, e7, e8, hf1⟩ := hSw.1.2.2.cells; go_simp; try with_reducible rfl)
  try simp only [Act.put, List.getElem_toArray, List.getElem_cons_succ, List.getElem_cons_zero, List.setIfInBounds_toArray, List.set_cons_zero, List.set_cons_succ]
  refine wpAnyH_take (i := 18) (oi := _) (v := ?_) rfl (by kernel_rfl) (by kernel_rfl) (by kernel_rfl) (fun _ _ _ h => h) (Or.inl ⟨by rfl, ?_⟩) (by assumption) ?_
  rotate_left
  · (intro W hSw; obtain ⟨h0, h1, h2, h3, h4, hf0⟩ := hSw.1.2.1.cells; obtain ⟨e0, e1, e2, e3, e4, e5, e6, e7, e8, hf1⟩ := hSw.1.2.2.cells; go_simp; try with_reducible rfl)
  try simp only [Act.put, List.getElem_toArray, List.getElem_cons_succ, List.getElem_cons_zero, List.setIfInBounds_toArray, List.set_cons_zero, List.set_cons_succ]
  refine wpAnyH_done (by kernel_rfl) ?_ _
  have H1 := Lib.hid hHeld
  clear hHeld H0 hb1
  go_upto_region 3 with fail
  refine wp_region_held_drew (S := PO w p E M N s E2 M2 N2 s2) (by kernel_rfl) (PO.drew H1.out) (fun hHeld => ?_)
  refine wpAnyH_take (i := 0) (oi := _) (v := ?_) rfl (by kernel_rfl) (by kernel_rfl) (by kernel_rfl) (fun _ _ _ h => h) (Or.inl ⟨by rfl, ?_⟩) (by assumption) ?_
  rotate_left
  · (intro W hSw; obtain ⟨h0, h1, h2, h3, h4, hf0⟩ := hSw.1.2.1.cells; obtain ⟨e0, e1, e2, e3, e4, e5, e6, e7, e8, hf1⟩ := hSw.2.cells; have hlk := HLk.out _ hSw.2; go_simp; try with_reducible rfl)
  try simp only [Act.put, List.getElem_toArray, List.getElem_cons_zero, List.setIfInBounds_toArray, List.set_cons_zero, List.set_cons_succ]
  refine wpAnyH_take (i := 1) (oi := _) (v := ?_) rfl (by kernel_rfl) (by kernel_rfl) (by kernel_rfl) (fun _ _ _ h => h) (Or.inl ⟨by rfl, ?_⟩) (by assumption) ?_
  rotate_left
  · (intro W hSw; obtain ⟨h0, h1, h2, h3, h4, hf0⟩ := hSw.1.2.1.cells; obtain ⟨e0, e1, e2, e3, e4, e5, e6, e7, e8, hf1⟩ := hSw.2.cells; have hlk := HLk.out _ hSw.2; go_simp; try with_reducible rfl)
  try simp only [Act.put, List.getElem_toArray, List.getElem_cons_succ, List.getElem_cons_zero, List.setIfInBounds_toArray, List.set_cons_zero, List.set_cons_succ]
  refine wpAnyH_take (i := 2) (oi := _) (v := ?_) rfl (by kernel_rfl) (by kernel_rfl) (by kernel_rfl) (fun _ _ _ h => h) (Or.inl ⟨by rfl, ?_⟩) (by assumption) ?_
  rotate_left
  · (intro W hSw; obtain ⟨h0, h1, h2, h3, h4, hf0⟩ := hSw.1.2.1.cells; obtain ⟨e0, e1, e2, e3, e4, e5, e6, e7, e8, hf1⟩ := hSw.2.cells; have hlk := HLk.out _ hSw.2; go_simp; try with_reducible rfl)
  try simp only [Act.put, List.getElem_toArray, List.getElem_cons_succ, List.getElem_cons_zero, List.setIfInBounds_toArray, List.set_cons_zero, List.set_cons_succ]
  refine wpAnyH_take (i := 3) (oi := _) (v := ?_) rfl (by kernel_rfl) (by kernel_rfl) (by kernel_rfl) (fun _ _ _ h => h) (Or.inl ⟨by rfl, ?_⟩) (by assumption) ?_
  rotate_left
  · (intro W hSw; obtain ⟨h0, h1, h2, h3, h4, hf0⟩ := hSw.1.2.1.cells; obtain ⟨e0, e1, e2, e3, e4, e5, e6, e7, e8, hf1⟩ := hSw.2.cells; have hlk := HLk.out _ hSw.2; go_simp; try with_reducible rfl)
  try simp only [Act.put, List.getElem_toArray, List.getElem_cons_succ, List.getElem_cons_zero, List.setIfInBounds_toArray, List.set_cons_zero, List.set_cons_succ]
  refine wpAnyH_take (i := 4) (oi := _) (v := ?_) rfl (by kernel_rfl) (by kernel_rfl) (by kernel_rfl) (fun _ _ _ h => h) (Or.inl ⟨by rfl, ?_⟩) (by assumption) ?_
  rotate_left
  · (intro W hSw; obtain ⟨h0, h1, h2, h3, h4, hf0⟩ := hSw.1.2.1.cells; obtain ⟨e0, e1, e2, e3, e4, e5, e6, e7, e8, hf1⟩ := hSw.2.cells; have hlk := HLk.out _ hSw.2; go_simp; try with_reducible rfl)
  try simp only [Act.put, List.getElem_toArray, List.getElem_cons_succ, List.getElem_cons_zero, List.setIfInBounds_toArray, List.set_cons_zero, List.set_cons_succ]
  refine wpAnyH_take (i := 5) (oi := _) (v := ?_) rfl (by kernel_rfl) (by kernel_rfl) (by kernel_rfl) (fun _ _ _ h => h) (Or.inl ⟨by rfl, ?_⟩) (by assumption) ?_
  rotate_left
  · (intro W hSw; obtain ⟨h0, h1, h2, h3, h4, hf0⟩ := hSw.1.2.1.cells; obtain ⟨e0, e1, e2, e3, e4, e5, e6, e7, e8, hf1⟩ := hSw.2.cells; have hlk := HLk.out _ hSw.2; go_simp; try with_reducible rfl)
  try simp only [Act.put, List.getElem_toArray, List.getElem_cons_succ, List.getElem_cons_zero, List.setIfInBounds_toArray, List.set_cons_zero, List.set_cons_succ]
  refine wpAnyH_take (i := 6) (oi := _) (v := ?_) rfl (by kernel_rfl) (by kernel_rfl) (by kernel_rfl) (fun _ _ _ h => h) (Or.inl ⟨by rfl, ?_⟩) (by assumption) ?_
  rotate_left
  · (intro W hSw; obtain ⟨h0, h1, h2, h3, h4, hf0⟩ := hSw.1.2.1.cells; obtain ⟨e0, e1, e2, e3, e4, e5, e6, e7, e8, hf1⟩ := hSw.2.cells; have hlk := HLk.out _ hSw.2; go_simp; try with_reducible rfl)
  try simp only [Act.put, List.getElem_toArray, List.getElem_cons_succ, List.getElem_cons_zero, List.setIfInBounds_toArray, List.set_cons_zero, List.set_cons_succ]
  refine wpAnyH_take (i := 7) (oi := _) (v := ?_) rfl (by kernel_rfl) (by kernel_rfl) (by kernel_rfl) (fun _ _ _ h => h) (Or.inl ⟨by rfl, ?_⟩) (by assumption) ?_
  rotate_left
  · (intro W hSw; obtain ⟨h0, h1, h2, h3, h4, hf0⟩ := hSw.1.2.1.cells; obtain ⟨e0, e1, e2, e3, e4, e5, e6, e7, e8, hf1⟩ := hSw.2.cells; have hlk := HLk.out _ hSw.2; go_simp; try with_reducible rfl)
  try simp only [Act.put, List.getElem_toArray, List.getElem_cons_succ, List.getElem_cons_zero, List.setIfInBounds_toArray, List.set_cons_zero, List.set_cons_succ]
  refine wpAnyH_take (i := 8) (oi := _) (v := ?_) rfl (by kernel_rfl) (by kernel_rfl) (by kernel_rfl) (fun _ _ _ h => h) (Or.inl ⟨by rfl, ?_⟩) (by assumption) ?_
  rotate_left
  · (intro W hSw; obtain ⟨h0, h1, h2, h3, h4, hf0⟩ := hSw.1.2.1.cells; obtain ⟨e0, e1, e2, e3, e4, e5, e6, e7, e8, hf1⟩ := hSw.2.cells; have hlk := HLk.out _ hSw.2; go_simp; try with_reducible rfl)
  try simp only [Act.put, List.getElem_toArray, List.getElem_cons_succ, List.getElem_cons_zero, List.setIfInBounds_toArray, List.set_cons_zero, List.set_cons_succ]
  refine wpAnyH_take (i := 9) (oi := _) (v := ?_) rfl (by kernel_rfl) (by kernel_rfl) (by kernel_rfl) (fun _ _ _ h => h) (Or.inl ⟨by rfl, ?_⟩) (by assumption) ?_
  rotate_left
  · (intro W hSw; obtain ⟨h0, h1, h2, h3, h4, hf0⟩ := hSw.1.2.1.cells; obtain ⟨e0, e1, e2, e3, e4, e5, e6, e7, e8, hf1⟩ := hSw.2.cells; have hlk := HLk.out _ hSw.2; go_simp; try with_reducible rfl)
  try simp only [Act.put, List.getElem_toArray, List.getElem_cons_succ, List.getElem_cons_zero, List.setIfInBounds_toArray, List.set_cons_zero, List.set_cons_succ]
  refine wpAnyH_ready (rs := [10]) (by kernel_rfl) (by simp) ?_
  refine AllReadyH.cons rfl (fun K hK => ?_) AllReadyH.nil
  simp only [List.getElem_toArray, List.getElem_cons_succ, List.getElem_cons_zero]
  rw [if_pos (by rfl)]
  go_simp
  refine hK.out _ _ (PO.call hHeld ((Below.refl _ _).alloc (Nat.le_refl _) _)) (fun hHeld => ?_)
  clear hK K
  try simp only [Act.put, List.getElem_toArray, List.getElem_cons_succ, List.getElem_cons_zero, List.setIfInBounds_toArray, List.set_cons_zero, List.set_cons_succ]
  have hst : (storeCells ⟨w1.heap.size, 0, none⟩ C.toList).run Tryd.prog (w1.alloc (.cells #[.int .u8 0, .int .u8 0, .int .u8 0, .int .u8 0, .int .u8 0, .int .u8 0, .int .u8 0, .int .u8 0, .int .u8 0, .int .u8 0, .int .u8 0, .int .u8 0, .int .u8 0, .int .u8 0, .int .u8 0, .int .u8 0, .int .u8 0, .int .u8 0, .int .u8 0, .int .u8 0, .int .u8 0, .int .u8 0, .int .u8 0, .int .u8 0, .int .u8 0, .int .u8 0, .int .u8 0, .int .u8 0, .int .u8 0, .int .u8 0, .int .u8 0, .int .u8 0] TSm)).drew = .ok () (w1.alloc (.cells C TSm)).drew := run_storeCells_new (P := Tryd.prog) w1.drew TSm #[.int .u8 0, .int .u8 0, .int .u8 0, .int .u8 0, .int .u8 0, .int .u8 0, .int .u8 0, .int .u8 0, .int .u8 0, .int .u8 0, .int .u8 0, .int .u8 0, .int .u8 0, .int .u8 0, .int .u8 0, .int .u8 0, .int .u8 0, .int .u8 0, .int .u8 0, .int .u8 0, .int .u8 0, .int .u8 0, .int .u8 0, .int .u8 0, .int .u8 0, .int .u8 0, .int .u8 0, .int .u8 0, .int .u8 0, .int .u8 0, .int .u8 0, .int .u8 0] C (i32 C HC.out.1) (by rw [HC.out.1]; rfl) HC.out.2.1
  have hCz := HC.out.1
  refine wpAnyH_ready (rs := [11]) (by kernel_rfl) (by simp) ?_
  refine AllReadyH.cons rfl (fun K hK => ?_) AllReadyH.nil
  simp only [List.getElem_toArray, List.getElem_cons_succ, List.getElem_cons_zero]
  rw [if_pos (by rfl)]
  go_simp
  refine hK.out _ _ (PO.call (PO.drew H1.out) ((Below.refl _ _).alloc (Nat.le_refl _) _)) (fun hHeld => ?_)
  clear hK K
  try simp only [Act.put, List.getElem_toArray, List.getElem_cons_succ, List.getElem_cons_zero, List.setIfInBounds_toArray, List.set_cons_zero, List.set_cons_succ]
  refine wpAnyH_take (i := 12) (oi := _) (v := ?_) rfl (by kernel_rfl) (by kernel_rfl) (by kernel_rfl) (fun _ _ _ h => h) (Or.inl ⟨by rfl, ?_⟩) (by assumption) ?_
  rotate_left
  · (intro W hSw; obtain ⟨h0, h1, h2, h3, h4, hf0⟩ := hSw.1.2.1.cells; obtain ⟨e0, e1, e2, e3, e4, e5, e6, e7, e8, hf1⟩ := hSw.2.cells; have hlk := HLk.out _ hSw.2; go_simp; try with_reducible rfl)
  try simp only [Act.put, List.getElem_toArray, List.getElem_cons_succ, List.getElem_cons_zero, List.setIfInBounds_toArray, List.set_cons_zero, List.set_cons_succ]
  refine wpAnyH_done (by kernel_rfl) ?_ _
  have H3 : Hid (PO w p E M N s E2 M2 N2 s2 ((w1.alloc (.cells C TSm)).drew) ∧ (w1.alloc (.cells C TSm)).drew.heap[w1.heap.size]? = some (.cells C TSm (0, 0))) := Lib.hid ⟨hHeld, heap_alloc_new w1.drew _⟩
  obtain ⟨w3, hw3⟩ : ∃ X, X = (w1.alloc (.cells C TSm)).drew := ⟨_, rfl⟩
  obtain ⟨G, hG⟩ : ∃ X, X = w1.heap.size := ⟨_, rfl⟩
  rw [← hw3] at H3 ⊢
  rw [← hG] at H3 ⊢
  clear hw3 hG hst hHeld H1
  obtain ⟨h0, h1, h2, h3, h4, hf0⟩ := H3.out.1.1.2.1.cells
  obtain ⟨e0, e1, e2, e3, e4, e5, e6, e7, e8, hf1⟩ := H3.out.1.1.2.2.cells
  go_wp2
  go_ret2
  exact ⟨rfl, H3.out.1.1.1⟩
set_option maxRecDepth 20000 in
set_option maxHeartbeats 4000000 in
theorem recv_red {w : World} {E M N E2 M2 N2 : Nat} {s s2 : St} (p : P5) (h x : Int) (hT : Sha.Tab w) (hL : LG w E M N s) (hO : LG w E2 M2 N2 s2) (hx : IntKind.i64.wrap (1 - s.sd) = x) (hfb : fitG s p x = true) (hcl : s.cl = false) (hr : (lk p.s s.ac).isSome = true)  :
    Calls Tryd.prog 9 #[.pointer (some ⟨E, 0, none⟩), pkv p, .int .u64 h, .pointer (some ⟨E2, 0, none⟩)] w fun e w' => e = .returned (.tuple #[.string ⟨#[]⟩, .int .i64 15]) ∧ Below w.heap.size w w' := by
  have HRc := Lib.hid (fun W (hW : LG W E M N s) => hr ▸ received_g p.s hW)
  clear hr
  have hlk := fun W (hW : LG W E2 M2 N2 s2) => look_g p.s M2 s2.cm W hW.com
  have hC := sumOf_ok (k := p.s) hO.cok
  generalize sumOf p.s s2.cm = C at *
  have HLk := Lib.hid hlk
  have HC := Lib.hid hC
  clear hlk hC
  have HF := Lib.hid (fun W (hW : LG W E M N s) => hfb ▸ fits_g p x hW)
  have H0 := Lib.hid (PO.new (p := p) hL hO)
  have HEl := Lib.hid (And.intro hL.lt (And.intro hL.en (And.intro hL.mn (And.intro hL.cok hL.aok))))
  have HT := Lib.hid hT
  have HL0 := Lib.hid hL
  clear hfb hL hO hT
  go_enter Tryd.func9, Tryd.ntmps9
  go_upto_region 1 with fail
  refine wp_region_held_drew (S := PO w p E M N s E2 M2 N2 s2) (by kernel_rfl) (PO.drew H0.out) (fun hHeld => ?_)
  refine wpAnyH_take (i := 0) (oi := _) (v := ?_) rfl (by kernel_rfl) (by kernel_rfl) (by kernel_rfl) (fun _ _ _ h => h) (Or.inl ⟨by rfl, ?_⟩) (by assumption) ?_
  rotate_left
  · (intro W hSw; obtain ⟨h0, h1, h2, h3, h4, hf0⟩ := hSw.1.2.1.cells; obtain ⟨e0, e1, e2, e3, e4, e5, e6, e7, e8, hf1⟩ := hSw.1.2.2.cells; go_simp; try with_reducible rfl)
  try simp only [Act.put, List.getElem_toArray, List.getElem_cons_zero, List.setIfInBounds_toArray, List.set_cons_zero, List.set_cons_succ]
  refine wpAnyH_ready (rs := [1]) (by kernel_rfl) (by simp) ?_
  refine AllReadyH.cons rfl (fun K hK => ?_) AllReadyH.nil
  simp only [List.getElem_toArray, List.getElem_cons_succ, List.getElem_cons_zero]
  rw [if_pos (by rfl)]
  go_simp
  (refine (made_g hHeld.1.2.2).mono ?_; rintro e w1 ⟨rfl, hw⟩; obtain rfl := hw.symm; clear hw)
  go_wp2_with fail
  refine hK.out _ _ hHeld (fun hHeld => ?_)
  clear hK K
  try simp only [Act.put, List.getElem_toArray, List.getElem_cons_succ, List.getElem_cons_zero, List.setIfInBounds_toArray, List.set_cons_zero, List.set_cons_succ]
  refine wpAnyH_take (i := 2) (oi := _) (v := ?_) rfl (by kernel_rfl) (by kernel_rfl) (by kernel_rfl) (fun _ _ _ h => h) (Or.inl ⟨by rfl, ?_⟩) (by assumption) ?_
  rotate_left
  · (intro W hSw; obtain ⟨h0, h1, h2, h3, h4, hf0⟩ := hSw.1.2.1.cells; obtain ⟨e0, e1, e2, e3, e4, e5, e6, e7, e8, hf1⟩ := hSw.1.2.2.cells; go_simp; try with_reducible rfl)
  try simp only [Act.put, List.getElem_toArray, List.getElem_cons_succ, List.getElem_cons_zero, List.setIfInBounds_toArray, List.set_cons_zero, List.set_cons_succ]
  refine wpAnyH_take (i := 3) (oi := _) (v := ?_) rfl (by kernel_rfl) (by kernel_rfl) (by kernel_rfl) (fun _ _ _ h => h) (Or.inl ⟨by rfl, ?_⟩) (by assumption) ?_
  rotate_left
  · (intro W hSw; obtain ⟨h0, h1, h2, h3, h4, hf0⟩ := hSw.1.2.1.cells; obtain ⟨e0, e1, e2, e3, e4, e5, e6, e7, e8, hf1⟩ := hSw.1.2.2.cells; go_simp; try with_reducible rfl)
  try simp only [Act.put, List.getElem_toArray, List.getElem_cons_succ, List.getElem_cons_zero, List.setIfInBounds_toArray, List.set_cons_zero, List.set_cons_succ]
  refine wpAnyH_take (i := 4) (oi := _) (v := ?_) rfl (by kernel_rfl) (by kernel_rfl) (by kernel_rfl) (fun _ _ _ h => h) (Or.inl ⟨by rfl, ?_⟩) (by assumption) ?_
  rotate_left
  · (intro W hSw; obtain ⟨h0, h1, h2, h3, h4, hf0⟩ := hSw.1.2.1.cells; obtain ⟨e0, e1, e2, e3, e4, e5, e6, e7, e8, hf1⟩ := hSw.1.2.2.cells; go_simp; try with_reducible rfl)
  try simp only [Act.put, List.getElem_toArray, List.getElem_cons_succ, List.getElem_cons_zero, List.setIfInBounds_toArray, List.set_cons_zero, List.set_cons_succ]
  refine wpAnyH_ready (rs := [5]) (by kernel_rfl) (by simp) ?_
  refine AllReadyH.cons rfl (fun K hK => ?_) AllReadyH.nil
  simp only [List.getElem_toArray, List.getElem_cons_succ, List.getElem_cons_zero]
  rw [if_pos (by rfl)]
  go_simp
  (refine (made_g hHeld.2).mono ?_; rintro e w1 ⟨rfl, hw⟩; obtain rfl := hw.symm; clear hw)
  go_wp2_with fail
  refine hK.out _ _ hHeld (fun hHeld => ?_)
  clear hK K
  try simp only [Act.put, List.getElem_toArray, List.getElem_cons_succ, List.getElem_cons_zero, List.setIfInBounds_toArray, List.set_cons_zero, List.set_cons_succ]
  refine wpAnyH_take (i := 6) (oi := _) (v := ?_) rfl (by kernel_rfl) (by kernel_rfl) (by kernel_rfl) (fun _ _ _ h => h) (Or.inl ⟨by rfl, ?_⟩) (by assumption) ?_
  rotate_left
  · (intro W hSw; obtain ⟨h0, h1, h2, h3, h4, hf0⟩ := hSw.1.2.1.cells; obtain ⟨e0, e1, e2, e3, e4, e5, e6, e7, e8, hf1⟩ := hSw.1.2.2.cells; go_simp; try with_reducible rfl)
  try simp only [Act.put, List.getElem_toArray, List.getElem_cons_succ, List.getElem_cons_zero, List.setIfInBounds_toArray, List.set_cons_zero, List.set_cons_succ]
  refine wpAnyH_take (i := 7) (oi := _) (v := ?_) rfl (by kernel_rfl) (by kernel_rfl) (by kernel_rfl) (fun _ _ _ h => h) (Or.inl ⟨by rfl, ?_⟩) (by assumption) ?_
  rotate_left
  · (intro W hSw; obtain ⟨h0, h1, h2, h3, h4, hf0⟩ := hSw.1.2.1.cells; obtain ⟨e0, e1, e2, e3, e4, e5, e6, e7, e8, hf1⟩ := hSw.1.2.2.cells; go_simp; try with_reducible rfl)
  try simp only [Act.put, List.getElem_toArray, List.getElem_cons_succ, List.getElem_cons_zero, List.setIfInBounds_toArray, List.set_cons_zero, List.set_cons_succ]
  refine wpAnyH_take (i := 8) (oi := _) (v := ?_) rfl (by kernel_rfl) (by kernel_rfl) (by kernel_rfl) (fun _ _ _ h => h) (Or.inl ⟨by rfl, ?_⟩) (by assumption) ?_
  rotate_left
  · (intro W hSw; obtain ⟨h0, h1, h2, h3, h4, hf0⟩ := hSw.1.2.1.cells; obtain ⟨e0, e1, e2, e3, e4, e5, e6, e7, e8, hf1⟩ := hSw.1.2.2.cells; go_simp; try with_reducible rfl)
  try simp only [Act.put, List.getElem_toArray, List.getElem_cons_succ, List.getElem_cons_zero, List.setIfInBounds_toArray, List.set_cons_zero, List.set_cons_succ]
  refine wpAnyH_take (i := 9) (oi := _) (v := ?_) rfl (by kernel_rfl) (by kernel_rfl) (by kernel_rfl) (fun _ _ _ h => h) (Or.inl ⟨by rfl, ?_⟩) (by assumption) ?_
  rotate_left
  · (intro W hSw; obtain ⟨h0, h1, h2, h3, h4, hf0⟩ := hSw.1.2.1.cells; obtain ⟨e0, e1, e2, e3, e4, e5, e6, e7, e8, hf1⟩ := hSw.1.2.2.cells; go_simp; try with_reducible rfl)
  try simp only [Act.put, List.getElem_toArray, List.getElem_cons_succ, List.getElem_cons_zero, List.setIfInBounds_toArray, List.set_cons_zero, List.set_cons_succ]
  refine wpAnyH_take (i := 10) (oi := _) (v := ?_) rfl (by kernel_rfl) (by kernel_rfl) (by kernel_rfl) (fun _ _ _ h => h) (Or.inl ⟨by rfl, ?_⟩) (by assumption) ?_
  rotate_left
  · (intro W hSw; obtain ⟨h0, h1, h2, h3, h4, hf0⟩ := hSw.1.2.1.cells; obtain ⟨e0, e1, e2, e3, e4, e5, e6, e7, e8, hf1⟩ := hSw.1.2.2.cells; go_simp; try with_reducible rfl)
  try simp only [Act.put, List.getElem_toArray, List.getElem_cons_succ, List.getElem_cons_zero, List.setIfInBounds_toArray, List.set_cons_zero, List.set_cons_succ]
  refine wpAnyH_take (i := 11) (oi := _) (v := ?_) rfl (by kernel_rfl) (by kernel_rfl) (by kernel_rfl) (fun _ _ _ h => h) (Or.inl ⟨by rfl, ?_⟩) (by assumption) ?_
  rotate_left
  · (intro W hSw; obtain ⟨h0, h1, h2, h3, h4, hf0⟩ := hSw.1.2.1.cells; obtain ⟨e0, e1, e2, e3, e4, e5, e6, e7, e8, hf1⟩ := hSw.1.2.2.cells; go_simp; try with_reducible rfl)
  try simp only [Act.put, List.getElem_toArray, List.getElem_cons_succ, List.getElem_cons_zero, List.setIfInBounds_toArray, List.set_cons_zero, List.set_cons_succ]
  refine wpAnyH_take (i := 12) (oi := _) (v := ?_) rfl (by kernel_rfl) (by kernel_rfl) (by kernel_rfl) (fun _ _ _ h => h) (Or.inl ⟨by rfl, ?_⟩) (by assumption) ?_
  rotate_left
  · (intro W hSw; obtain ⟨h0, h1, h2, h3, h4, hf0⟩ := hSw.1.2.1.cells; obtain ⟨e0, e1, e2, e3, e4, e5, e6, e7, e8, hf1⟩ := hSw.1.2.2.cells; go_simp; try with_reducible rfl)
  try simp only [Act.put, List.getElem_toArray, List.getElem_cons_succ, List.getElem_cons_zero, List.setIfInBounds_toArray, List.set_cons_zero, List.set_cons_succ]
  refine wpAnyH_take (i := 13) (oi := _) (v := ?_) rfl (by kernel_rfl) (by kernel_rfl) (by kernel_rfl) (fun _ _ _ h => h) (Or.inl ⟨by rfl, ?_⟩) (by assumption) ?_
  rotate_left
  · (intro W hSw; obtain ⟨h0, h1, h2, h3, h4, hf0⟩ := hSw.1.2.1.cells; obtain ⟨e0, e1, e2, e3, e4, e5, e6, e7, e8, hf1⟩ := hSw.1.2.2.cells; go_simp; try with_reducible rfl)
  try simp only [Act.put, List.getElem_toArray, List.getElem_cons_succ, List.getElem_cons_zero, List.setIfInBounds_toArray, List.set_cons_zero, List.set_cons_succ]
  refine wpAnyH_take (i := 14) (oi := _) (v := ?_) rfl (by kernel_rfl) (by kernel_rfl) (by kernel_rfl) (fun _ _ _ h => h) (Or.inl ⟨by rfl, ?_⟩) (by assumption) ?_
  rotate_left
  · (intro W hSw; obtain ⟨h0, h1, h2, h3, h4, hf0⟩ := hSw.1.2.1.cells; obtain ⟨e0, e1, e2, e3, e4, e5, e6, e7, e8, hf1⟩ := hSw.1.2.2.cells; go_simp; try with_reducible rfl)
  try simp only [Act.put, List.getElem_toArray, List.getElem_cons_succ, List.getElem_cons_zero, List.setIfInBounds_toArray, List.set_cons_zero, List.set_cons_succ]
  refine wpAnyH_take (i := 15) (oi := _) (v := ?_) rfl (by kernel_rfl) (by kernel_rfl) (by kernel_rfl) (fun _ _ _ h => h) (Or.inl ⟨by rfl, ?_⟩) (by assumption) ?_
  rotate_left
  · (intro W hSw; obtain ⟨h0, h1, h2, h3, h4, hf0⟩ := hSw.1.2.1.cells; obtain ⟨e0, e1, e2, e3, e4, e5, e6, e7, e8, hf1⟩ := hSw.1.2.2.cells; go_simp; try with_reducible rfl)
  try simp only [Act.put, List.getElem_toArray, List.getElem_cons_succ, List.getElem_cons_zero, List.setIfInBounds_toArray, List.set_cons_zero, List.set_cons_succ]
  refine wpAnyH_ready (rs := [16]) (by kernel_rfl) (by simp) ?_
  refine AllReadyH.cons rfl (fun K hK => ?_) AllReadyH.nil
  simp only [List.getElem_toArray, List.getElem_cons_succ, List.getElem_cons_zero]
  rw [if_pos (by rfl)]
  go_simp
  (refine (HF.out _ hHeld.1.2.2).mono ?_; rintro e w1 ⟨rfl, hb1⟩)
  go_wp2_with fail
  refine hK.out _ _ (PO.call hHeld hb1) (fun hHeld => ?_)
  clear hK K
  try simp only [Act.put, List.getElem_toArray, List.getElem_cons_succ, List.getElem_cons_zero, List.setIfInBounds_toArray, List.set_cons_zero, List.set_cons_succ]
  refine wpAnyH_take (i := 17) (oi := _) (v := ?_) rfl (by kernel_rfl) (by kernel_rfl) (by kernel_rfl) (fun _ _ _ h => h) (Or.inl ⟨by rfl, ?_⟩) (by assumption) ?_
  rotate_left
  · (intro W hSw; obtain ⟨h0, h1, h2, h3, h4, hf0⟩ := hSw.1.2.1.cells; obtain ⟨e0, e1, e2, e3, e4, e5, e6, e7, e8, hf1⟩ := hSw.1.2.2.cells; go_simp; try with_reducible rfl)
  try simp only [Act.put, List.getElem_toArray, List.getElem_cons_succ, List.getElem_cons_zero, List.setIfInBounds_toArray, List.set_cons_zero, List.set_cons_succ]
  refine wpAnyH_take (i := 18) (oi := _) (v := ?_) rfl (by kernel_rfl) (by kernel_rfl) (by kernel_rfl) (fun _ _ _ h => h) (Or.inl ⟨by rfl, ?_⟩) (by assumption) ?_
  rotate_left
  · (intro W hSw; obtain ⟨h0, h1, h2, h3, h4, hf0⟩ := hSw.1.2.1.cells; obtain ⟨e0, e1, e2, e3, e4, e5, e6, e7, e8, hf1⟩ := hSw.1.2.2.cells; go_simp; try with_reducible rfl)
  try simp only [Act.put, List.getElem_toArray, List.getElem_cons_succ, List.getElem_cons_zero, List.setIfInBounds_toArray, List.set_cons_zero, List.set_cons_succ]
  refine wpAnyH_done (by kernel_rfl) ?_ _
  have H1 := Lib.hid hHeld
  clear hHeld H0 hb1
  go_upto_region 3 with fail
  refine wp_region_held_drew (S := PO w p E M N s E2 M2 N2 s2) (by kernel_rfl) (PO.drew H1.out) (fun hHeld => ?_)
  refine wpAnyH_take (i := 0) (oi := _) (v := ?_) rfl (by kernel_rfl) (by kernel_rfl) (by kernel_rfl) (fun _ _ _ h => h) (Or.inl ⟨by rfl, ?_⟩) (by assumption) ?_
  rotate_left
  · (intro W hSw; obtain ⟨h0, h1, h2, h3, h4, hf0⟩ := hSw.1.2.1.cells; obtain ⟨e0, e1, e2, e3, e4, e5, e6, e7, e8, hf1⟩ := hSw.2.cells; have hlk := HLk.out _ hSw.2; go_simp; try with_reducible rfl)
  try simp only [Act.put, List.getElem_toArray, List.getElem_cons_zero, List.setIfInBounds_toArray, List.set_cons_zero, List.set_cons_succ]
  refine wpAnyH_take (i := 1) (oi := _) (v := ?_) rfl (by kernel_rfl) (by kernel_rfl) (by kernel_rfl) (fun _ _ _ h => h) (Or.inl ⟨by rfl, ?_⟩) (by assumption) ?_
  rotate_left
  · (intro W hSw; obtain ⟨h0, h1, h2, h3, h4, hf0⟩ := hSw.1.2.1.cells; obtain ⟨e0, e1, e2, e3, e4, e5, e6, e7, e8, hf1⟩ := hSw.2.cells; have hlk := HLk.out _ hSw.2; go_simp; try with_reducible rfl)
  try simp only [Act.put, List.getElem_toArray, List.getElem_cons_succ, List.getElem_cons_zero, List.setIfInBounds_toArray, List.set_cons_zero, List.set_cons_succ]
  refine wpAnyH_take (i := 2) (oi := _) (v := ?_) rfl (by kernel_rfl) (by kernel_rfl) (by kernel_rfl) (fun _ _ _ h => h) (Or.inl ⟨by rfl, ?_⟩) (by assumption) ?_
  rotate_left
  · (intro W hSw; obtain ⟨h0, h1, h2, h3, h4, hf0⟩ := hSw.1.2.1.cells; obtain ⟨e0, e1, e2, e3, e4, e5, e6, e7, e8, hf1⟩ := hSw.2.cells; have hlk := HLk.out _ hSw.2; go_simp; try with_reducible rfl)
  try simp only [Act.put, List.getElem_toArray, List.getElem_cons_succ, List.getElem_cons_zero, List.setIfInBounds_toArray, List.set_cons_zero, List.set_cons_succ]
  refine wpAnyH_take (i := 3) (oi := _) (v := ?_) rfl (by kernel_rfl) (by kernel_rfl) (by kernel_rfl) (fun _ _ _ h => h) (Or.inl ⟨by rfl, ?_⟩) (by assumption) ?_
  rotate_left
  · (intro W hSw; obtain ⟨h0, h1, h2, h3, h4, hf0⟩ := hSw.1.2.1.cells; obtain ⟨e0, e1, e2, e3, e4, e5, e6, e7, e8, hf1⟩ := hSw.2.cells; have hlk := HLk.out _ hSw.2; go_simp; try with_reducible rfl)
  try simp only [Act.put, List.getElem_toArray, List.getElem_cons_succ, List.getElem_cons_zero, List.setIfInBounds_toArray, List.set_cons_zero, List.set_cons_succ]
  refine wpAnyH_take (i := 4) (oi := _) (v := ?_) rfl (by kernel_rfl) (by kernel_rfl) (by kernel_rfl) (fun _ _ _ h => h) (Or.inl ⟨by rfl, ?_⟩) (by assumption) ?_
  rotate_left
  · (intro W hSw; obtain ⟨h0, h1, h2, h3, h4, hf0⟩ := hSw.1.2.1.cells; obtain ⟨e0, e1, e2, e3, e4, e5, e6, e7, e8, hf1⟩ := hSw.2.cells; have hlk := HLk.out _ hSw.2; go_simp; try with_reducible rfl)
  try simp only [Act.put, List.getElem_toArray, List.getElem_cons_succ, List.getElem_cons_zero, List.setIfInBounds_toArray, List.set_cons_zero, List.set_cons_succ]
  refine wpAnyH_take (i := 5) (oi := _) (v := ?_) rfl (by kernel_rfl) (by kernel_rfl) (by kernel_rfl) (fun _ _ _ h => h) (Or.inl ⟨by rfl, ?_⟩) (by assumption) ?_
  rotate_left
  · (intro W hSw; obtain ⟨h0, h1, h2, h3, h4, hf0⟩ := hSw.1.2.1.cells; obtain ⟨e0, e1, e2, e3, e4, e5, e6, e7, e8, hf1⟩ := hSw.2.cells; have hlk := HLk.out _ hSw.2; go_simp; try with_reducible rfl)
  try simp only [Act.put, List.getElem_toArray, List.getElem_cons_succ, List.getElem_cons_zero, List.setIfInBounds_toArray, List.set_cons_zero, List.set_cons_succ]
  refine wpAnyH_take (i := 6) (oi := _) (v := ?_) rfl (by kernel_rfl) (by kernel_rfl) (by kernel_rfl) (fun _ _ _ h => h) (Or.inl ⟨by rfl, ?_⟩) (by assumption) ?_
  rotate_left
  · (intro W hSw; obtain ⟨h0, h1, h2, h3, h4, hf0⟩ := hSw.1.2.1.cells; obtain ⟨e0, e1, e2, e3, e4, e5, e6, e7, e8, hf1⟩ := hSw.2.cells; have hlk := HLk.out _ hSw.2; go_simp; try with_reducible rfl)
  try simp only [Act.put, List.getElem_toArray, List.getElem_cons_succ, List.getElem_cons_zero, List.setIfInBounds_toArray, List.set_cons_zero, List.set_cons_succ]
  refine wpAnyH_take (i := 7) (oi := _) (v := ?_) rfl (by kernel_rfl) (by kernel_rfl) (by kernel_rfl) (fun _ _ _ h => h) (Or.inl ⟨by rfl, ?_⟩) (by assumption) ?_
  rotate_left
  · (intro W hSw; obtain ⟨h0, h1, h2, h3, h4, hf0⟩ := hSw.1.2.1.cells; obtain ⟨e0, e1, e2, e3, e4, e5, e6, e7, e8, hf1⟩ := hSw.2.cells; have hlk := HLk.out _ hSw.2; go_simp; try with_reducible rfl)
  try simp only [Act.put, List.getElem_toArray, List.getElem_cons_succ, List.getElem_cons_zero, List.setIfInBounds_toArray, List.set_cons_zero, List.set_cons_succ]
  refine wpAnyH_take (i := 8) (oi := _) (v := ?_) rfl (by kernel_rfl) (by kernel_rfl) (by kernel_rfl) (fun _ _ _ h => h) (Or.inl ⟨by rfl, ?_⟩) (by assumption) ?_
  rotate_left
  · (intro W hSw; obtain ⟨h0, h1, h2, h3, h4, hf0⟩ := hSw.1.2.1.cells; obtain ⟨e0, e1, e2, e3, e4, e5, e6, e7, e8, hf1⟩ := hSw.2.cells; have hlk := HLk.out _ hSw.2; go_simp; try with_reducible rfl)
  try simp only [Act.put, List.getElem_toArray, List.getElem_cons_succ, List.getElem_cons_zero, List.setIfInBounds_toArray, List.set_cons_zero, List.set_cons_succ]
  refine wpAnyH_take (i := 9) (oi := _) (v := ?_) rfl (by kernel_rfl) (by kernel_rfl) (by kernel_rfl) (fun _ _ _ h => h) (Or.inl ⟨by rfl, ?_⟩) (by assumption) ?_
  rotate_left
  · (intro W hSw; obtain ⟨h0, h1, h2, h3, h4, hf0⟩ := hSw.1.2.1.cells; obtain ⟨e0, e1, e2, e3, e4, e5, e6, e7, e8, hf1⟩ := hSw.2.cells; have hlk := HLk.out _ hSw.2; go_simp; try with_reducible rfl)
  try simp only [Act.put, List.getElem_toArray, List.getElem_cons_succ, List.getElem_cons_zero, List.setIfInBounds_toArray, List.set_cons_zero, List.set_cons_succ]
  refine wpAnyH_ready (rs := [10]) (by kernel_rfl) (by simp) ?_
  refine AllReadyH.cons rfl (fun K hK => ?_) AllReadyH.nil
  simp only [List.getElem_toArray, List.getElem_cons_succ, List.getElem_cons_zero]
  rw [if_pos (by rfl)]
  go_simp
  refine hK.out _ _ (PO.call hHeld ((Below.refl _ _).alloc (Nat.le_refl _) _)) (fun hHeld => ?_)
  clear hK K
  try simp only [Act.put, List.getElem_toArray, List.getElem_cons_succ, List.getElem_cons_zero, List.setIfInBounds_toArray, List.set_cons_zero, List.set_cons_succ]
  have hst : (storeCells ⟨w1.heap.size, 0, none⟩ C.toList).run Tryd.prog (w1.alloc (.cells #[.int .u8 0, .int .u8 0, .int .u8 0, .int .u8 0, .int .u8 0, .int .u8 0, .int .u8 0, .int .u8 0, .int .u8 0, .int .u8 0, .int .u8 0, .int .u8 0, .int .u8 0, .int .u8 0, .int .u8 0, .int .u8 0, .int .u8 0, .int .u8 0, .int .u8 0, .int .u8 0, .int .u8 0, .int .u8 0, .int .u8 0, .int .u8 0, .int .u8 0, .int .u8 0, .int .u8 0, .int .u8 0, .int .u8 0, .int .u8 0, .int .u8 0, .int .u8 0] TSm)).drew = .ok () (w1.alloc (.cells C TSm)).drew := run_storeCells_new (P := Tryd.prog) w1.drew TSm #[.int .u8 0, .int .u8 0, .int .u8 0, .int .u8 0, .int .u8 0, .int .u8 0, .int .u8 0, .int .u8 0, .int .u8 0, .int .u8 0, .int .u8 0, .int .u8 0, .int .u8 0, .int .u8 0, .int .u8 0, .int .u8 0, .int .u8 0, .int .u8 0, .int .u8 0, .int .u8 0, .int .u8 0, .int .u8 0, .int .u8 0, .int .u8 0, .int .u8 0, .int .u8 0, .int .u8 0, .int .u8 0, .int .u8 0, .int .u8 0, .int .u8 0, .int .u8 0] C (i32 C HC.out.1) (by rw [HC.out.1]; rfl) HC.out.2.1
  have hCz := HC.out.1
  refine wpAnyH_ready (rs := [11]) (by kernel_rfl) (by simp) ?_
  refine AllReadyH.cons rfl (fun K hK => ?_) AllReadyH.nil
  simp only [List.getElem_toArray, List.getElem_cons_succ, List.getElem_cons_zero]
  rw [if_pos (by rfl)]
  go_simp
  refine hK.out _ _ (PO.call (PO.drew H1.out) ((Below.refl _ _).alloc (Nat.le_refl _) _)) (fun hHeld => ?_)
  clear hK K
  try simp only [Act.put, List.getElem_toArray, List.getElem_cons_succ, List.getElem_cons_zero, List.setIfInBounds_toArray, List.set_cons_zero, List.set_cons_succ]
  refine wpAnyH_take (i := 12) (oi := _) (v := ?_) rfl (by kernel_rfl) (by kernel_rfl) (by kernel_rfl) (fun _ _ _ h => h) (Or.inl ⟨by rfl, ?_⟩) (by assumption) ?_
  rotate_left
  · (intro W hSw; obtain ⟨h0, h1, h2, h3, h4, hf0⟩ := hSw.1.2.1.cells; obtain ⟨e0, e1, e2, e3, e4, e5, e6, e7, e8, hf1⟩ := hSw.2.cells; have hlk := HLk.out _ hSw.2; go_simp; try with_reducible rfl)
  try simp only [Act.put, List.getElem_toArray, List.getElem_cons_succ, List.getElem_cons_zero, List.setIfInBounds_toArray, List.set_cons_zero, List.set_cons_succ]
  refine wpAnyH_done (by kernel_rfl) ?_ _
  have H3 : Hid (PO w p E M N s E2 M2 N2 s2 ((w1.alloc (.cells C TSm)).drew) ∧ (w1.alloc (.cells C TSm)).drew.heap[w1.heap.size]? = some (.cells C TSm (0, 0))) := Lib.hid ⟨hHeld, heap_alloc_new w1.drew _⟩
  obtain ⟨w3, hw3⟩ : ∃ X, X = (w1.alloc (.cells C TSm)).drew := ⟨_, rfl⟩
  obtain ⟨G, hG⟩ : ∃ X, X = w1.heap.size := ⟨_, rfl⟩
  rw [← hw3] at H3 ⊢
  rw [← hG] at H3 ⊢
  clear hw3 hG hst hHeld H1
  obtain ⟨h0, h1, h2, h3, h4, hf0⟩ := H3.out.1.1.2.1.cells
  obtain ⟨e0, e1, e2, e3, e4, e5, e6, e7, e8, hf1⟩ := H3.out.1.1.2.2.cells
  go_wp2_with fail
  refine (HRc.out _ H3.out.1.1.2.2).mono ?_
  rintro _ w4 ⟨rfl, b4⟩
  have H4 : Hid (PO w p E M N s E2 M2 N2 s2 w4 ∧ w4.heap[G]? = some (.cells C TSm (0, 0))) := Lib.hid ⟨PO.call H3.out.1 b4, (b4.block _ (lt_of H3.out.2)).trans H3.out.2⟩
  clear h0 h1 h2 h3 h4 hf0 e0 e1 e2 e3 e4 e5 e6 e7 e8 hf1 b4 H3
  obtain ⟨h0, h1, h2, h3, h4, hf0⟩ := H4.out.1.1.2.1.cells
  obtain ⟨e0, e1, e2, e3, e4, e5, e6, e7, e8, hf1⟩ := H4.out.1.1.2.2.cells
  go_wp2
  go_ret2
  exact ⟨rfl, H4.out.1.1.1⟩
set_option maxRecDepth 20000 in
set_option maxHeartbeats 4000000 in
theorem recv_late {w : World} {E M N E2 M2 N2 : Nat} {s s2 : St} (p : P5) (h x : Int) (hT : Sha.Tab w) (hL : LG w E M N s) (hO : LG w E2 M2 N2 s2) (hx : IntKind.i64.wrap (1 - s.sd) = x) (hfb : fitG s p x = true) (hcl : s.cl = false) (hr : (lk p.s s.ac).isSome = false) (hlt : lateB p h = true)  :
    Calls Tryd.prog 9 #[.pointer (some ⟨E, 0, none⟩), pkv p, .int .u64 h, .pointer (some ⟨E2, 0, none⟩)] w fun e w' => e = .returned (.tuple #[.string ⟨#[]⟩, .int .i64 20]) ∧ Below w.heap.size w w' := by
  have HRc := Lib.hid (fun W (hW : LG W E M N s) => hr ▸ received_g p.s hW)
  clear hr
  have HLt := Lib.hid (fun W => hlt ▸ late_g p h W)
  clear hlt
  have hlk := fun W (hW : LG W E2 M2 N2 s2) => look_g p.s M2 s2.cm W hW.com
  have hC := sumOf_ok (k := p.s) hO.cok
  generalize sumOf p.s s2.cm = C at *
  have HLk := Lib.hid hlk
  have HC := Lib.hid hC
  clear hlk hC
  have HF := Lib.hid (fun W (hW : LG W E M N s) => hfb ▸ fits_g p x hW)
  have H0 := Lib.hid (PO.new (p := p) hL hO)
  have HEl := Lib.hid (And.intro hL.lt (And.intro hL.en (And.intro hL.mn (And.intro hL.cok hL.aok))))
  have HT := Lib.hid hT
  have HL0 := Lib.hid hL
  clear hfb hL hO hT
  go_enter Tryd.func9, Tryd.ntmps9
  go_upto_region 1 with fail
  refine wp_region_held_drew (S := PO w p E M N s E2 M2 N2 s2) (by kernel_rfl) (PO.drew H0.out) (fun hHeld => ?_)
  refine wpAnyH_take (i := 0) (oi := _) (v := ?_) rfl (by kernel_rfl) (by kernel_rfl) (by kernel_rfl) (fun _ _ _ h => h) (Or.inl ⟨by rfl, ?_⟩) (by assumption) ?_
  rotate_left
  · (intro W hSw; obtain ⟨h0, h1, h2, h3, h4, hf0⟩ := hSw.1.2.1.cells; obtain ⟨e0, e1, e2, e3, e4, e5, e6, e7, e8, hf1⟩ := hSw.1.2.2.cells; go_simp; try with_reducible rfl)
  try simp only [Act.put, List.getElem_toArray, List.getElem_cons_zero, List.setIfInBounds_toArray, List.set_cons_zero, List.set_cons_succ]
  refine wpAnyH_ready (rs := [1]) (by kernel_rfl) (by simp) ?_
  refine AllReadyH.cons rfl (fun K hK => ?_) AllReadyH.nil
  simp only [List.getElem_toArray, List.getElem_cons_succ, List.getElem_cons_zero]
  rw [if_pos (by rfl)]
  go_simp
  (refine (made_g hHeld.1.2.2).mono ?_; rintro e w1 ⟨rfl, hw⟩; obtain rfl := hw.symm; clear hw)
  go_wp2_with fail
  refine hK.out _ _ hHeld (fun hHeld => ?_)
  clear hK K
  try simp only [Act.put, List.getElem_toArray, List.getElem_cons_succ, List.getElem_cons_zero, List.setIfInBounds_toArray, List.set_cons_zero, List.set_cons_succ]
  refine wpAnyH_take (i := 2) (oi := _) (v := ?_) rfl (by kernel_rfl) (by kernel_rfl) (by kernel_rfl) (fun _ _ _ h => h) (Or.inl ⟨by rfl, ?_⟩) (by assumption) ?_
  rotate_left
  · (intro W hSw; obtain ⟨h0, h1, h2, h3, h4, hf0⟩ := hSw.1.2.1.cells; obtain ⟨e0, e1, e2, e3, e4, e5, e6, e7, e8, hf1⟩ := hSw.1.2.2.cells; go_simp; try with_reducible rfl)
  try simp only [Act.put, List.getElem_toArray, List.getElem_cons_succ, List.getElem_cons_zero, List.setIfInBounds_toArray, List.set_cons_zero, List.set_cons_succ]
  refine wpAnyH_take (i := 3) (oi := _) (v := ?_) rfl (by kernel_rfl) (by kernel_rfl) (by kernel_rfl) (fun _ _ _ h => h) (Or.inl ⟨by rfl, ?_⟩) (by assumption) ?_
  rotate_left
  · (intro W hSw; obtain ⟨h0, h1, h2, h3, h4, hf0⟩ := hSw.1.2.1.cells; obtain ⟨e0, e1, e2, e3, e4, e5, e6, e7, e8, hf1⟩ := hSw.1.2.2.cells; go_simp; try with_reducible rfl)
  try simp only [Act.put, List.getElem_toArray, List.getElem_cons_succ, List.getElem_cons_zero, List.setIfInBounds_toArray, List.set_cons_zero, List.set_cons_succ]
  refine wpAnyH_take (i := 4) (oi := _) (v := ?_) rfl (by kernel_rfl) (by kernel_rfl) (by kernel_rfl) (fun _ _ _ h => h) (Or.inl ⟨by rfl, ?_⟩) (by assumption) ?_
  rotate_left
  · (intro W hSw; obtain ⟨h0, h1, h2, h3, h4, hf0⟩ := hSw.1.2.1.cells; obtain ⟨e0, e1, e2, e3, e4, e5, e6, e7, e8, hf1⟩ := hSw.1.2.2.cells; go_simp; try with_reducible rfl)
  try simp only [Act.put, List.getElem_toArray, List.getElem_cons_succ, List.getElem_cons_zero, List.setIfInBounds_toArray, List.set_cons_zero, List.set_cons_succ]
  refine wpAnyH_ready (rs := [5]) (by kernel_rfl) (by simp) ?_
  refine AllReadyH.cons rfl (fun K hK => ?_) AllReadyH.nil
  simp only [List.getElem_toArray, List.getElem_cons_succ, List.getElem_cons_zero]
  rw [if_pos (by rfl)]
  go_simp
  (refine (made_g hHeld.2).mono ?_; rintro e w1 ⟨rfl, hw⟩; obtain rfl := hw.symm; clear hw)
  go_wp2_with fail
  refine hK.out _ _ hHeld (fun hHeld => ?_)
  clear hK K
  try simp only [Act.put, List.getElem_toArray, List.getElem_cons_succ, List.getElem_cons_zero, List.setIfInBounds_toArray, List.set_cons_zero, List.set_cons_succ]
  refine wpAnyH_take (i := 6) (oi := _) (v := ?_) rfl (by kernel_rfl) (by kernel_rfl) (by kernel_rfl) (fun _ _ _ h => h) (Or.inl ⟨by rfl, ?_⟩) (by assumption) ?_
  rotate_left
  · (intro W hSw; obtain ⟨h0, h1, h2, h3, h4, hf0⟩ := hSw.1.2.1.cells; obtain ⟨e0, e1, e2, e3, e4, e5, e6, e7, e8, hf1⟩ := hSw.1.2.2.cells; go_simp; try with_reducible rfl)
  try simp only [Act.put, List.getElem_toArray, List.getElem_cons_succ, List.getElem_cons_zero, List.setIfInBounds_toArray, List.set_cons_zero, List.set_cons_succ]
  refine wpAnyH_take (i := 7) (oi := _) (v := ?_) rfl (by kernel_rfl) (by kernel_rfl) (by kernel_rfl) (fun _ _ _ h => h) (Or.inl ⟨by rfl, ?_⟩) (by assumption) ?_
  rotate_left
  · (intro W hSw; obtain ⟨h0, h1, h2, h3, h4, hf0⟩ := hSw.1.2.1.cells; obtain ⟨e0, e1, e2, e3, e4, e5, e6, e7, e8, hf1⟩ := hSw.1.2.2.cells; go_simp; try with_reducible rfl)
  try simp only [Act.put, List.getElem_toArray, List.getElem_cons_succ, List.getElem_cons_zero, List.setIfInBounds_toArray, List.set_cons_zero, List.set_cons_succ]
  refine wpAnyH_take (i := 8) (oi := _) (v := ?_) rfl (by kernel_rfl) (by kernel_rfl) (by kernel_rfl) (fun _ _ _ h => h) (Or.inl ⟨by rfl, ?_⟩) (by assumption) ?_
  rotate_left
  · (intro W hSw; obtain ⟨h0, h1, h2, h3, h4, hf0⟩ := hSw.1.2.1.cells; obtain ⟨e0, e1, e2, e3, e4, e5, e6, e7, e8, hf1⟩ := hSw.1.2.2.cells; go_simp; try with_reducible rfl)
  try simp only [Act.put, List.getElem_toArray, List.getElem_cons_succ, List.getElem_cons_zero, List.setIfInBounds_toArray, List.set_cons_zero, List.set_cons_succ]
  refine wpAnyH_take (i := 9) (oi := _) (v := ?_) rfl (by kernel_rfl) (by kernel_rfl) (by kernel_rfl) (fun _ _ _ h => h) (Or.inl ⟨by rfl, ?_⟩) (by assumption) ?_
  rotate_left
  · (intro W hSw; obtain ⟨h0, h1, h2, h3, h4, hf0⟩ := hSw.1.2.1.cells; obtain ⟨e0, e1, e2, e3, e4, e5, e6, e7, e8, hf1⟩ := hSw.1.2.2.cells; go_simp; try with_reducible rfl)
  try simp only [Act.put, List.getElem_toArray, List.getElem_cons_succ, List.getElem_cons_zero, List.setIfInBounds_toArray, List.set_cons_zero, List.set_cons_succ]
  refine wpAnyH_take (i := 10) (oi := _) (v := ?_) rfl (by kernel_rfl) (by kernel_rfl) (by kernel_rfl) (fun _ _ _ h => h) (Or.inl ⟨by rfl, ?_⟩) (by assumption) ?_
  rotate_left
  · (intro W hSw; obtain ⟨h0, h1, h2, h3, h4, hf0⟩ := hSw.1.2.1.cells; obtain ⟨e0, e1, e2, e3, e4, e5, e6, e7, e8, hf1⟩ := hSw.1.2.2.cells; go_simp; try with_reducible rfl)
  try simp only [Act.put, List.getElem_toArray, List.getElem_cons_succ, List.getElem_cons_zero, List.setIfInBounds_toArray, List.set_cons_zero, List.set_cons_succ]
  refine wpAnyH_take (i := 11) (oi := _) (v := ?_) rfl (by kernel_rfl) (by kernel_rfl) (by kernel_rfl) (fun _ _ _ h => h) (Or.inl ⟨by rfl, ?_⟩) (by assumption) ?_
  rotate_left
  · (intro W hSw; obtain ⟨h0, h1, h2, h3, h4, hf0⟩ := hSw.1.2.1.cells; obtain ⟨e0, e1, e2, e3, e4, e5, e6, e7, e8, hf1⟩ := hSw.1.2.2.cells; go_simp; try with_reducible rfl)
  try simp only [Act.put, List.getElem_toArray, List.getElem_cons_succ, List.getElem_cons_zero, List.setIfInBounds_toArray, List.set_cons_zero, List.set_cons_succ]
  refine wpAnyH_take (i := 12) (oi := _) (v := ?_) rfl (by kernel_rfl) (by kernel_rfl) (by kernel_rfl) (fun _ _ _ h => h) (Or.inl ⟨by rfl, ?_⟩) (by assumption) ?_
  rotate_left
  · (intro W hSw; obtain ⟨h0, h1, h2, h3, h4, hf0⟩ := hSw.1.2.1.cells; obtain ⟨e0, e1, e2, e3, e4, e5, e6, e7, e8, hf1⟩ := hSw.1.2.2.cells; go_simp; try with_reducible rfl)
  try simp only [Act.put, List.getElem_toArray, List.getElem_cons_succ, List.getElem_cons_zero, List.setIfInBounds_toArray, List.set_cons_zero, List.set_cons_succ]
  refine wpAnyH_take (i := 13) (oi := _) (v := ?_) rfl (by kernel_rfl) (by kernel_rfl) (by kernel_rfl) (fun _ _ _ h => h) (Or.inl ⟨by rfl, ?_⟩) (by assumption) ?_
  rotate_left
  · (intro W hSw; obtain ⟨h0, h1, h2, h3, h4, hf0⟩ := hSw.1.2.1.cells; obtain ⟨e0, e1, e2, e3, e4, e5, e6, e7, e8, hf1⟩ := hSw.1.2.2.cells; go_simp; try with_reducible rfl)
  try simp only [Act.put, List.getElem_toArray, List.getElem_cons_succ, List.getElem_cons_zero, List.setIfInBounds_toArray, List.set_cons_zero, List.set_cons_succ]
  refine wpAnyH_take (i := 14) (oi := _) (v := ?_) rfl (by kernel_rfl) (by kernel_rfl) (by kernel_rfl) (fun _ _ _ h => h) (Or.inl ⟨by rfl, ?_⟩) (by assumption) ?_
  rotate_left
  · (intro W hSw; obtain ⟨h0, h1, h2, h3, h4, hf0⟩ := hSw.1.2.1.cells; obtain ⟨e0, e1, e2, e3, e4, e5, e6, e7, e8, hf1⟩ := hSw.1.2.2.cells; go_simp; try with_reducible rfl)
  try simp only [Act.put, List.getElem_toArray, List.getElem_cons_succ, List.getElem_cons_zero, List.setIfInBounds_toArray, List.set_cons_zero, List.set_cons_succ]
  refine wpAnyH_take (i := 15) (oi := _) (v := ?_) rfl (by kernel_rfl) (by kernel_rfl) (by kernel_rfl) (fun _ _ _ h => h) (Or.inl ⟨by rfl, ?_⟩) (by assumption) ?_
  rotate_left
  · (intro W hSw; obtain ⟨h0, h1, h2, h3, h4, hf0⟩ := hSw.1.2.1.cells; obtain ⟨e0, e1, e2, e3, e4, e5, e6, e7, e8, hf1⟩ := hSw.1.2.2.cells; go_simp; try with_reducible rfl)
  try simp only [Act.put, List.getElem_toArray, List.getElem_cons_succ, List.getElem_cons_zero, List.setIfInBounds_toArray, List.set_cons_zero, List.set_cons_succ]
  refine wpAnyH_ready (rs := [16]) (by kernel_rfl) (by simp) ?_
  refine AllReadyH.cons rfl (fun K hK => ?_) AllReadyH.nil
  simp only [List.getElem_toArray, List.getElem_cons_succ, List.getElem_cons_zero]
  rw [if_pos (by rfl)]
  go_simp
  (refine (HF.out _ hHeld.1.2.2).mono ?_; rintro e w1 ⟨rfl, hb1⟩)
  go_wp2_with fail
  refine hK.out _ _ (PO.call hHeld hb1) (fun hHeld => ?_)
  clear hK K
  try simp only [Act.put, List.getElem_toArray, List.getElem_cons_succ, List.getElem_cons_zero, List.setIfInBounds_toArray, List.set_cons_zero, List.set_cons_succ]
  refine wpAnyH_take (i := 17) (oi := _) (v := ?_) rfl (by kernel_rfl) (by kernel_rfl) (by kernel_rfl) (fun _ _ _ h => h) (Or.inl ⟨by rfl, ?_⟩) (by assumption) ?_
  rotate_left
  · (intro W hSw; obtain ⟨h0, h1, h2, h3, h4, hf0⟩ := hSw.1.2.1.cells; obtain ⟨e0, e1, e2, e3, e4, e5, e6, e7, e8, hf1⟩ := hSw.1.2.2.cells; go_simp; try with_reducible rfl)
  try simp only [Act.put, List.getElem_toArray, List.getElem_cons_succ, List.getElem_cons_zero, List.setIfInBounds_toArray, List.set_cons_zero, List.set_cons_succ]
  refine wpAnyH_take (i := 18) (oi := _) (v := ?_) rfl (by kernel_rfl) (by kernel_rfl) (by kernel_rfl) (fun _ _ _ h => h) (Or.inl ⟨by rfl, ?_⟩) (by assumption) ?_
  rotate_left
  · (intro W hSw; obtain ⟨h0, h1, h2, h3, h4, hf0⟩ := hSw.1.2.1.cells; obtain ⟨e0, e1, e2, e3, e4, e5, e6, e7, e8, hf1⟩ := hSw.1.2.2.cells; go_simp; try with_reducible rfl)
  try simp only [Act.put, List.getElem_toArray, List.getElem_cons_succ, List.getElem_cons_zero, List.setIfInBounds_toArray, List.set_cons_zero, List.set_cons_succ]
  refine wpAnyH_done (by kernel_rfl) ?_ _
  have H1 := Lib.hid hHeld
  clear hHeld H0 hb1
  go_upto_region 3 with fail
  refine wp_region_held_drew (S := PO w p E M N s E2 M2 N2 s2) (by kernel_rfl) (PO.drew H1.out) (fun hHeld => ?_)
  refine wpAnyH_take (i := 0) (oi := _) (v := ?_) rfl (by kernel_rfl) (by kernel_rfl) (by kernel_rfl) (fun _ _ _ h => h) (Or.inl ⟨by rfl, ?_⟩) (by assumption) ?_
  rotate_left
  · (intro W hSw; obtain ⟨h0, h1, h2, h3, h4, hf0⟩ := hSw.1.2.1.cells; obtain ⟨e0, e1, e2, e3, e4, e5, e6, e7, e8, hf1⟩ := hSw.2.cells; have hlk := HLk.out _ hSw.2; go_simp; try with_reducible rfl)
  try simp only [Act.put, List.getElem_toArray, List.getElem_cons_zero, List.setIfInBounds_toArray, List.set_cons_zero, List.set_cons_succ]
  refine wpAnyH_take (i := 1) (oi := _) (v := ?_) rfl (by kernel_rfl) (by kernel_rfl) (by kernel_rfl) (fun _ _ _ h => h) (Or.inl ⟨by rfl, ?_⟩) (by assumption) ?_
  rotate_left
  · (intro W hSw; obtain ⟨h0, h1, h2, h3, h4, hf0⟩ := hSw.1.2.1.cells; obtain ⟨e0, e1, e2, e3, e4, e5, e6, e7, e8, hf1⟩ := hSw.2.cells; have hlk := HLk.out _ hSw.2; go_simp; try with_reducible rfl)
  try simp only [Act.put, List.getElem_toArray, List.getElem_cons_succ, List.getElem_cons_zero, List.setIfInBounds_toArray, List.set_cons_zero, List.set_cons_succ]
  refine wpAnyH_take (i := 2) (oi := _) (v := ?_) rfl (by kernel_rfl) (by kernel_rfl) (by kernel_rfl) (fun _ _ _ h => h) (Or.inl ⟨by rfl, ?_⟩) (by assumption) ?_
  rotate_left
  · (intro W hSw; obtain ⟨h0, h1, h2, h3, h4, hf0⟩ := hSw.1.2.1.cells; obtain ⟨e0, e1, e2, e3, e4, e5, e6, e7, e8, hf1⟩ := hSw.2.cells; have hlk := HLk.out _ hSw.2; go_simp; try with_reducible rfl)
  try simp only [Act.put, List.getElem_toArray, List.getElem_cons_succ, List.getElem_cons_zero, List.setIfInBounds_toArray, List.set_cons_zero, List.set_cons_succ]
  refine wpAnyH_take (i := 3) (oi := _) (v := ?_) rfl (by kernel_rfl) (by kernel_rfl) (by kernel_rfl) (fun _ _ _ h => h) (Or.inl ⟨by rfl, ?_⟩) (by assumption) ?_
  rotate_left
  · (intro W hSw; obtain ⟨h0, h1, h2, h3, h4, hf0⟩ := hSw.1.2.1.cells; obtain ⟨e0, e1, e2, e3, e4, e5, e6, e7, e8, hf1⟩ := hSw.2.cells; have hlk := HLk.out _ hSw.2; go_simp; try with_reducible rfl)
  try simp only [Act.put, List.getElem_toArray, List.getElem_cons_succ, List.getElem_cons_zero, List.setIfInBounds_toArray, List.set_cons_zero, List.set_cons_succ]
  refine wpAnyH_take (i := 4) (oi := _) (v := ?_) rfl (by kernel_rfl) (by kernel_rfl) (by kernel_rfl) (fun _ _ _ h => h) (Or.inl ⟨by rfl, ?_⟩) (by assumption) ?_
  rotate_left
  · (intro W hSw; obtain ⟨h0, h1, h2, h3, h4, hf0⟩ := hSw.1.2.1.cells; obtain ⟨e0, e1, e2, e3, e4, e5, e6, e7, e8, hf1⟩ := hSw.2.cells; have hlk := HLk.out _ hSw.2; go_simp; try with_reducible rfl)
  try simp only [Act.put, List.getElem_toArray, List.getElem_cons_succ, List.getElem_cons_zero, List.setIfInBounds_toArray, List.set_cons_zero, List.set_cons_succ]
  refine wpAnyH_take (i := 5) (oi := _) (v := ?_) rfl (by kernel_rfl) (by kernel_rfl) (by kernel_rfl) (fun _ _ _ h => h) (Or.inl ⟨by rfl, ?_⟩) (by assumption) ?_
  rotate_left
  · (intro W hSw; obtain ⟨h0, h1, h2, h3, h4, hf0⟩ := hSw.1.2.1.cells; obtain ⟨e0, e1, e2, e3, e4, e5, e6, e7, e8, hf1⟩ := hSw.2.cells; have hlk := HLk.out _ hSw.2; go_simp; try with_reducible rfl)
  try simp only [Act.put, List.getElem_toArray, List.getElem_cons_succ, List.getElem_cons_zero, List.setIfInBounds_toArray, List.set_cons_zero, List.set_cons_succ]
  refine wpAnyH_take (i := 6) (oi := _) (v := ?_) rfl (by kernel_rfl) (by kernel_rfl) (by kernel_rfl) (fun _ _ _ h => h) (Or.inl ⟨by rfl, ?_⟩) (by assumption) ?_
  rotate_left
  · (intro W hSw; obtain ⟨h0, h1, h2, h3, h4, hf0⟩ := hSw.1.2.1.cells; obtain ⟨e0, e1, e2, e3, e4, e5, e6, e7, e8, hf1⟩ := hSw.2.cells; have hlk := HLk.out _ hSw.2; go_simp; try with_reducible rfl)
  try simp only [Act.put, List.getElem_toArray, List.getElem_cons_succ, List.getElem_cons_zero, List.setIfInBounds_toArray, List.set_cons_zero, List.set_cons_succ]
  refine wpAnyH_take (i := 7) (oi := _) (v := ?_) rfl (by kernel_rfl) (by kernel_rfl) (by kernel_rfl) (fun _ _ _ h => h) (Or.inl ⟨by rfl, ?_⟩) (by assumption) ?_
  rotate_left
  · (intro W hSw; obtain ⟨h0, h1, h2, h3, h4, hf0⟩ := hSw.1.2.1.cells; obtain ⟨e0, e1, e2, e3, e4, e5, e6, e7, e8, hf1⟩ := hSw.2.cells; have hlk := HLk.out _ hSw.2; go_simp; try with_reducible rfl)
  try simp only [Act.put, List.getElem_toArray, List.getElem_cons_succ, List.getElem_cons_zero, List.setIfInBounds_toArray, List.set_cons_zero, List.set_cons_succ]
  refine wpAnyH_take (i := 8) (oi := _) (v := ?_) rfl (by kernel_rfl) (by kernel_rfl) (by kernel_rfl) (fun _ _ _ h => h) (Or.inl ⟨by rfl, ?_⟩) (by assumption) ?_
  rotate_left
  · (intro W hSw; obtain ⟨h0, h1, h2, h3, h4, hf0⟩ := hSw.1.2.1.cells; obtain ⟨e0, e1, e2, e3, e4, e5, e6, e7, e8, hf1⟩ := hSw.2.cells; have hlk := HLk.out _ hSw.2; go_simp; try with_reducible rfl)
  try simp only [Act.put, List.getElem_toArray, List.getElem_cons_succ, List.getElem_cons_zero, List.setIfInBounds_toArray, List.set_cons_zero, List.set_cons_succ]
  refine wpAnyH_take (i := 9) (oi := _) (v := ?_) rfl (by kernel_rfl) (by kernel_rfl) (by kernel_rfl) (fun _ _ _ h => h) (Or.inl ⟨by rfl, ?_⟩) (by assumption) ?_
  rotate_left
  · (intro W hSw; obtain ⟨h0, h1, h2, h3, h4, hf0⟩ := hSw.1.2.1.cells; obtain ⟨e0, e1, e2, e3, e4, e5, e6, e7, e8, hf1⟩ := hSw.2.cells; have hlk := HLk.out _ hSw.2; go_simp; try with_reducible rfl)
  try simp only [Act.put, List.getElem_toArray, List.getElem_cons_succ, List.getElem_cons_zero, List.setIfInBounds_toArray, List.set_cons_zero, List.set_cons_succ]
  refine wpAnyH_ready (rs := [10]) (by kernel_rfl) (by simp) ?_
  refine AllReadyH.cons rfl (fun K hK => ?_) AllReadyH.nil
  simp only [List.getElem_toArray, List.getElem_cons_succ, List.getElem_cons_zero]
  rw [if_pos (by rfl)]
  go_simp
  refine hK.out _ _ (PO.call hHeld ((Below.refl _ _).alloc (Nat.le_refl _) _)) (fun hHeld => ?_)
  clear hK K
  try simp only [Act.put, List.getElem_toArray, List.getElem_cons_succ, List.getElem_cons_zero, List.setIfInBounds_toArray, List.set_cons_zero, List.set_cons_succ]
  have hst : (storeCells ⟨w1.heap.size, 0, none⟩ C.toList).run Tryd.prog (w1.alloc (.cells #[.int .u8 0, .int .u8 0, .int .u8 0, .int .u8 0, .int .u8 0, .int .u8 0, .int .u8 0, .int .u8 0, .int .u8 0, .int .u8 0, .int .u8 0, .int .u8 0, .int .u8 0, .int .u8 0, .int .u8 0, .int .u8 0, .int .u8 0, .int .u8 0, .int .u8 0, .int .u8 0, .int .u8 0, .int .u8 0, .int .u8 0, .int .u8 0, .int .u8 0, .int .u8 0, .int .u8 0, .int .u8 0, .int .u8 0, .int .u8 0, .int .u8 0, .int .u8 0] TSm)).drew = .ok () (w1.alloc (.cells C TSm)).drew := run_storeCells_new (P := Tryd.prog) w1.drew TSm #[.int .u8 0, .int .u8 0, .int .u8 0, .int .u8 0, .int .u8 0, .int .u8 0, .int .u8 0, .int .u8 0, .int .u8 0, .int .u8 0, .int .u8 0, .int .u8 0, .int .u8 0, .int .u8 0, .int .u8 0, .int .u8 0, .int .u8 0, .int .u8 0, .int .u8 0, .int .u8 0, .int .u8 0, .int .u8 0, .int .u8 0, .int .u8 0, .int .u8 0, .int .u8 0, .int .u8 0, .int .u8 0, .int .u8 0, .int .u8 0, .int .u8 0, .int .u8 0] C (i32 C HC.out.1) (by rw [HC.out.1]; rfl) HC.out.2.1
  have hCz := HC.out.1
  refine wpAnyH_ready (rs := [11]) (by kernel_rfl) (by simp) ?_
  refine AllReadyH.cons rfl (fun K hK => ?_) AllReadyH.nil
  simp only [List.getElem_toArray, List.getElem_cons_succ, List.getElem_cons_zero]
  rw [if_pos (by rfl)]
  go_simp
  refine hK.out _ _ (PO.call (PO.drew H1.out) ((Below.refl _ _).alloc (Nat.le_refl _) _)) (fun hHeld => ?_)
  clear hK K
  try simp only [Act.put, List.getElem_toArray, List.getElem_cons_succ, List.getElem_cons_zero, List.setIfInBounds_toArray, List.set_cons_zero, List.set_cons_succ]
  refine wpAnyH_take (i := 12) (oi := _) (v := ?_) rfl (by kernel_rfl) (by kernel_rfl) (by kernel_rfl) (fun _ _ _ h => h) (Or.inl ⟨by rfl, ?_⟩) (by assumption) ?_
  rotate_left
  · (intro W hSw; obtain ⟨h0, h1, h2, h3, h4, hf0⟩ := hSw.1.2.1.cells; obtain ⟨e0, e1, e2, e3, e4, e5, e6, e7, e8, hf1⟩ := hSw.2.cells; have hlk := HLk.out _ hSw.2; go_simp; try with_reducible rfl)
  try simp only [Act.put, List.getElem_toArray, List.getElem_cons_succ, List.getElem_cons_zero, List.setIfInBounds_toArray, List.set_cons_zero, List.set_cons_succ]
  refine wpAnyH_done (by kernel_rfl) ?_ _
  have H3 : Hid (PO w p E M N s E2 M2 N2 s2 ((w1.alloc (.cells C TSm)).drew) ∧ (w1.alloc (.cells C TSm)).drew.heap[w1.heap.size]? = some (.cells C TSm (0, 0))) := Lib.hid ⟨hHeld, heap_alloc_new w1.drew _⟩
  obtain ⟨w3, hw3⟩ : ∃ X, X = (w1.alloc (.cells C TSm)).drew := ⟨_, rfl⟩
  obtain ⟨G, hG⟩ : ∃ X, X = w1.heap.size := ⟨_, rfl⟩
  rw [← hw3] at H3 ⊢
  rw [← hG] at H3 ⊢
  clear hw3 hG hst hHeld H1
  obtain ⟨h0, h1, h2, h3, h4, hf0⟩ := H3.out.1.1.2.1.cells
  obtain ⟨e0, e1, e2, e3, e4, e5, e6, e7, e8, hf1⟩ := H3.out.1.1.2.2.cells
  go_wp2_with fail
  refine (HRc.out _ H3.out.1.1.2.2).mono ?_
  rintro _ w4 ⟨rfl, b4⟩
  have H4 : Hid (PO w p E M N s E2 M2 N2 s2 w4 ∧ w4.heap[G]? = some (.cells C TSm (0, 0))) := Lib.hid ⟨PO.call H3.out.1 b4, (b4.block _ (lt_of H3.out.2)).trans H3.out.2⟩
  clear h0 h1 h2 h3 h4 hf0 e0 e1 e2 e3 e4 e5 e6 e7 e8 hf1 b4 H3
  obtain ⟨h0, h1, h2, h3, h4, hf0⟩ := H4.out.1.1.2.1.cells
  obtain ⟨e0, e1, e2, e3, e4, e5, e6, e7, e8, hf1⟩ := H4.out.1.1.2.2.cells
  go_wp2_with fail
  refine (HLt.out _).mono ?_
  rintro _ w5 ⟨rfl, b5⟩
  have H5 : Hid (PO w p E M N s E2 M2 N2 s2 w5 ∧ w5.heap[G]? = some (.cells C TSm (0, 0))) := Lib.hid ⟨PO.call H4.out.1 b5, (b5.block _ (lt_of H4.out.2)).trans H4.out.2⟩
  clear h0 h1 h2 h3 h4 hf0 e0 e1 e2 e3 e4 e5 e6 e7 e8 hf1 b5 H4
  obtain ⟨h0, h1, h2, h3, h4, hf0⟩ := H5.out.1.1.2.1.cells
  obtain ⟨e0, e1, e2, e3, e4, e5, e6, e7, e8, hf1⟩ := H5.out.1.1.2.2.cells
  go_wp2
  go_ret2
  exact ⟨rfl, H5.out.1.1.1⟩
set_option maxRecDepth 20000 in
set_option maxHeartbeats 4000000 in
theorem recv_none {w : World} {E M N E2 M2 N2 : Nat} {s s2 : St} (p : P5) (h x : Int) (hT : Sha.Tab w) (hL : LG w E M N s) (hO : LG w E2 M2 N2 s2) (hx : IntKind.i64.wrap (1 - s.sd) = x) (hfb : fitG s p x = true) (hcl : s.cl = false) (hr : (lk p.s s.ac).isSome = false) (hlt : lateB p h = false) (hk : (lk p.s s2.cm).isSome = false) :
    Calls Tryd.prog 9 #[.pointer (some ⟨E, 0, none⟩), pkv p, .int .u64 h, .pointer (some ⟨E2, 0, none⟩)] w fun e w' => e = .returned (.tuple #[.string ⟨#[]⟩, .int .i64 18]) ∧ Below w.heap.size w w' := by
  have HRc := Lib.hid (fun W (hW : LG W E M N s) => hr ▸ received_g p.s hW)
  clear hr
  have HLt := Lib.hid (fun W => hlt ▸ late_g p h W)
  clear hlt
  have hlk := fun W (hW : LG W E2 M2 N2 s2) => look_g p.s M2 s2.cm W hW.com
  have hC := sumOf_ok (k := p.s) hO.cok
  simp only [hk] at hlk
  generalize sumOf p.s s2.cm = C at *
  have HLk := Lib.hid hlk
  have HC := Lib.hid hC
  clear hlk hC
  have HF := Lib.hid (fun W (hW : LG W E M N s) => hfb ▸ fits_g p x hW)
  have H0 := Lib.hid (PO.new (p := p) hL hO)
  have HEl := Lib.hid (And.intro hL.lt (And.intro hL.en (And.intro hL.mn (And.intro hL.cok hL.aok))))
  have HT := Lib.hid hT
  have HL0 := Lib.hid hL
  clear hfb hL hO hT
  go_enter Tryd.func9, Tryd.ntmps9
  go_upto_region 1 with fail
  refine wp_region_held_drew (S := PO w p E M N s E2 M2 N2 s2) (by kernel_rfl) (PO.drew H0.out) (fun hHeld => ?_)
  refine wpAnyH_take (i := 0) (oi := _) (v := ?_) rfl (by kernel_rfl) (by kernel_rfl) (by kernel_rfl) (fun _ _ _ h => h) (Or.inl ⟨by rfl, ?_⟩) (by assumption) ?_
  rotate_left
  · (intro W hSw; obtain ⟨h0, h1, h2, h3, h4, hf0⟩ := hSw.1.2.1.cells; obtain ⟨e0, e1, e2, e3, e4, e5, e6, e7, e8, hf1⟩ := hSw.1.2.2.cells; go_simp; try with_reducible rfl)
  try simp only [Act.put, List.getElem_toArray, List.getElem_cons_zero, List.setIfInBounds_toArray, List.set_cons_zero, List.set_cons_succ]
  refine wpAnyH_ready (rs := [1]) (by kernel_rfl) (by simp) ?_
  refine AllReadyH.cons rfl (fun K hK => ?_) AllReadyH.nil
  simp only [List.getElem_toArray, List.getElem_cons_succ, List.getElem_cons_zero]
  rw [if_pos (by rfl)]
  go_simp
  (refine (made_g hHeld.1.2.2).mono ?_; rintro e w1 ⟨rfl, hw⟩; obtain rfl := hw.symm; clear hw)
  go_wp2_with fail
  refine hK.out _ _ hHeld (fun hHeld => ?_)
  clear hK K
  try simp only [Act.put, List.getElem_toArray, List.getElem_cons_succ, List.getElem_cons_zero, List.setIfInBounds_toArray, List.set_cons_zero, List.set_cons_succ]
  refine wpAnyH_take (i := 2) (oi := _) (v := ?_) rfl (by kernel_rfl) (by kernel_rfl) (by kernel_rfl) (fun _ _ _ h => h) (Or.inl ⟨by rfl, ?_⟩) (by assumption) ?_
  rotate_left
  · (intro W hSw; obtain ⟨h0, h1, h2, h3, h4, hf0⟩ := hSw.1.2.1.cells; obtain ⟨e0, e1, e2, e3, e4, e5, e6, e7, e8, hf1⟩ := hSw.1.2.2.cells; go_simp; try with_reducible rfl)
  try simp only [Act.put, List.getElem_toArray, List.getElem_cons_succ, List.getElem_cons_zero, List.setIfInBounds_toArray, List.set_cons_zero, List.set_cons_succ]
  refine wpAnyH_take (i := 3) (oi := _) (v := ?_) rfl (by kernel_rfl) (by kernel_rfl) (by kernel_rfl) (fun _ _ _ h => h) (Or.inl ⟨by rfl, ?_⟩) (by assumption) ?_
  rotate_left
  · (intro W hSw; obtain ⟨h0, h1, h2, h3, h4, hf0⟩ := hSw.1.2.1.cells; obtain ⟨e0, e1, e2, e3, e4, e5, e6, e7, e8, hf1⟩ := hSw.1.2.2.cells; go_simp; try with_reducible rfl)
  try simp only [Act.put, List.getElem_toArray, List.getElem_cons_succ, List.getElem_cons_zero, List.setIfInBounds_toArray, List.set_cons_zero, List.set_cons_succ]
  refine wpAnyH_take (i := 4) (oi := _) (v := ?_) rfl (by kernel_rfl) (by kernel_rfl) (by kernel_rfl) (fun _ _ _ h => h) (Or.inl ⟨by rfl, ?_⟩) (by assumption) ?_
  rotate_left
  · (intro W hSw; obtain ⟨h0, h1, h2, h3, h4, hf0⟩ := hSw.1.2.1.cells; obtain ⟨e0, e1, e2, e3, e4, e5, e6, e7, e8, hf1⟩ := hSw.1.2.2.cells; go_simp; try with_reducible rfl)
  try simp only [Act.put, List.getElem_toArray, List.getElem_cons_succ, List.getElem_cons_zero, List.setIfInBounds_toArray, List.set_cons_zero, List.set_cons_succ]
  refine wpAnyH_ready (rs := [5]) (by kernel_rfl) (by simp) ?_
  refine AllReadyH.cons rfl (fun K hK => ?_) AllReadyH.nil
  simp only [List.getElem_toArray, List.getElem_cons_succ, List.getElem_cons_zero]
  rw [if_pos (by rfl)]
  go_simp
  (refine (made_g hHeld.2).mono ?_; rintro e w1 ⟨rfl, hw⟩; obtain rfl := hw.symm; clear hw)
  go_wp2_with fail
  refine hK.out _ _ hHeld (fun hHeld => ?_)
  clear hK K
  try simp only [Act.put, List.getElem_toArray, List.getElem_cons_succ, List.getElem_cons_zero, List.setIfInBounds_toArray, List.set_cons_zero, List.set_cons_succ]
  refine wpAnyH_take (i := 6) (oi := _) (v := ?_) rfl (by kernel_rfl) (by kernel_rfl) (by kernel_rfl) (fun _ _ _ h => h) (Or.inl ⟨by rfl, ?_⟩) (by assumption) ?_
  rotate_left
  · (intro W hSw; obtain ⟨h0, h1, h2, h3, h4, hf0⟩ := hSw.1.2.1.cells; obtain ⟨e0, e1, e2, e3, e4, e5, e6, e7, e8, hf1⟩ := hSw.1.2.2.cells; go_simp; try with_reducible rfl)
  try simp only [Act.put, List.getElem_toArray, List.getElem_cons_succ, List.getElem_cons_zero, List.setIfInBounds_toArray, List.set_cons_zero, List.set_cons_succ]
  refine wpAnyH_take (i := 7) (oi := _) (v := ?_) rfl (by kernel_rfl) (by kernel_rfl) (by kernel_rfl) (fun _ _ _ h => h) (Or.inl ⟨by rfl, ?_⟩) (by assumption) ?_
  rotate_left
  · (intro W hSw; obtain ⟨h0, h1, h2, h3, h4, hf0⟩ := hSw.1.2.1.cells; obtain ⟨e0, e1, e2, e3, e4, e5, e6, e7, e8, hf1⟩ := hSw.1.2.2.cells; go_simp; try with_reducible rfl)
  try simp only [Act.put, List.getElem_toArray, List.getElem_cons_succ, List.getElem_cons_zero, List.setIfInBounds_toArray, List.set_cons_zero, List.set_cons_succ]
  refine wpAnyH_take (i := 8) (oi := _) (v := ?_) rfl (by kernel_rfl) (by kernel_rfl) (by kernel_rfl) (fun _ _ _ h => h) (Or.inl ⟨by rfl, ?_⟩) (by assumption) ?_
  rotate_left
  · (intro W hSw; obtain ⟨h0, h1, h2, h3, h4, hf0⟩ := hSw.1.2.1.cells; obtain ⟨e0, e1, e2, e3, e4, e5, e6, e7, e8, hf1⟩ := hSw.1.2.2.cells; go_simp; try with_reducible rfl)
  try simp only [Act.put, List.getElem_toArray, List.getElem_cons_succ, List.getElem_cons_zero, List.setIfInBounds_toArray, List.set_cons_zero, List.set_cons_succ]
  refine wpAnyH_take (i := 9) (oi := _) (v := ?_) rfl (by kernel_rfl) (by kernel_rfl) (by kernel_rfl) (fun _ _ _ h => h) (Or.inl ⟨by rfl, ?_⟩) (by assumption) ?_
  rotate_left
  · (intro W hSw; obtain ⟨h0, h1, h2, h3, h4, hf0⟩ := hSw.1.2.1.cells; obtain ⟨e0, e1, e2, e3, e4, e5, e6, e7, e8, hf1⟩ := hSw.1.2.2.cells; go_simp; try with_reducible rfl)
  try simp only [Act.put, List.getElem_toArray, List.getElem_cons_succ, List.getElem_cons_zero, List.setIfInBounds_toArray, List.set_cons_zero, List.set_cons_succ]
  refine wpAnyH_take (i := 10) (oi := _) (v := ?_) rfl (by kernel_rfl) (by kernel_rfl) (by kernel_rfl) (fun _ _ _ h => h) (Or.inl ⟨by rfl, ?_⟩) (by assumption) ?_
  rotate_left
  · (intro W hSw; obtain ⟨h0, h1, h2, h3, h4, hf0⟩ := hSw.1.2.1.cells; obtain ⟨e0, e1, e2, e3, e4, e5, e6, e7, e8, hf1⟩ := hSw.1.2.2.cells; go_simp; try with_reducible rfl)
  try simp only [Act.put, List.getElem_toArray, List.getElem_cons_succ, List.getElem_cons_zero, List.setIfInBounds_toArray, List.set_cons_zero, List.set_cons_succ]
  refine wpAnyH_take (i := 11) (oi := _) (v := ?_) rfl (by kernel_rfl) (by kernel_rfl) (by kernel_rfl) (fun _ _ _ h => h) (Or.inl ⟨by rfl, ?_⟩) (by assumption) ?_
  rotate_left
  · (intro W hSw; obtain ⟨h0, h1, h2, h3, h4, hf0⟩ := hSw.1.2.1.cells; obtain ⟨e0, e1, e2, e3, e4, e5, e6, e7, e8, hf1⟩ := hSw.1.2.2.cells; go_simp; try with_reducible rfl)
  try simp only [Act.put, List.getElem_toArray, List.getElem_cons_succ, List.getElem_cons_zero, List.setIfInBounds_toArray, List.set_cons_zero, List.set_cons_succ]
  refine wpAnyH_take (i := 12) (oi := _) (v := ?_) rfl (by kernel_rfl) (by kernel_rfl) (by kernel_rfl) (fun _ _ _ h => h) (Or.inl ⟨by rfl, ?_⟩) (by assumption) ?_
  rotate_left
  · (intro W hSw; obtain ⟨h0, h1, h2, h3, h4, hf0⟩ := hSw.1.2.1.cells; obtain ⟨e0, e1, e2, e3, e4, e5, e6, e7, e8, hf1⟩ := hSw.1.2.2.cells; go_simp; try with_reducible rfl)
  try simp only [Act.put, List.getElem_toArray, List.getElem_cons_succ, List.getElem_cons_zero, List.setIfInBounds_toArray, List.set_cons_zero, List.set_cons_succ]
  refine wpAnyH_take (i := 13) (oi := _) (v := ?_) rfl (by kernel_rfl) (by kernel_rfl) (by kernel_rfl) (fun _ _ _ h => h) (Or.inl ⟨by rfl, ?_⟩) (by assumption) ?_
  rotate_left
  · (intro W hSw; obtain ⟨h0, h1, h2, h3, h4, hf0⟩ := hSw.1.2.1.cells; obtain ⟨e0, e1, e2, e3, e4, e5, e6, e7, e8, hf1⟩ := hSw.1.2.2.cells; go_simp; try with_reducible rfl)
  try simp only [Act.put, List.getElem_toArray, List.getElem_cons_succ, List.getElem_cons_zero, List.setIfInBounds_toArray, List.set_cons_zero, List.set_cons_succ]
  refine wpAnyH_take (i := 14) (oi := _) (v := ?_) rfl (by kernel_rfl) (by kernel_rfl) (by kernel_rfl) (fun _ _ _ h => h) (Or.inl ⟨by rfl, ?_⟩) (by assumption) ?_
  rotate_left
  · (intro W hSw; obtain ⟨h0, h1, h2, h3, h4, hf0⟩ := hSw.1.2.1.cells; obtain ⟨e0, e1, e2, e3, e4, e5, e6, e7, e8, hf1⟩ := hSw.1.2.2.cells; go_simp; try with_reducible rfl)
  try simp only [Act.put, List.getElem_toArray, List.getElem_cons_succ, List.getElem_cons_zero, List.setIfInBounds_toArray, List.set_cons_zero, List.set_cons_succ]
  refine wpAnyH_take (i := 15) (oi := _) (v := ?_) rfl (by kernel_rfl) (by kernel_rfl) (by kernel_rfl) (fun _ _ _ h => h) (Or.inl ⟨by rfl, ?_⟩) (by assumption) ?_
  rotate_left
  · (intro W hSw; obtain ⟨h0, h1, h2, h3, h4, hf0⟩ := hSw.1.2.1.cells; obtain ⟨e0, e1, e2, e3, e4, e5, e6, e7, e8, hf1⟩ := hSw.1.2.2.cells; go_simp; try with_reducible rfl)
  try simp only [Act.put, List.getElem_toArray, List.getElem_cons_succ, List.getElem_cons_zero, List.setIfInBounds_toArray, List.set_cons_zero, List.set_cons_succ]
  refine wpAnyH_ready (rs := [16]) (by kernel_rfl) (by simp) ?_
  refine AllReadyH.cons rfl (fun K hK => ?_) AllReadyH.nil
  simp only [List.getElem_toArray, List.getElem_cons_succ, List.getElem_cons_zero]
  rw [if_pos (by rfl)]
  go_simp
  (refine (HF.out _ hHeld.1.2.2).mono ?_; rintro e w1 ⟨rfl, hb1⟩)
  go_wp2_with fail
  refine hK.out _ _ (PO.call hHeld hb1) (fun hHeld => ?_)
  clear hK K
  try simp only [Act.put, List.getElem_toArray, List.getElem_cons_succ, List.getElem_cons_zero, List.setIfInBounds_toArray, List.set_cons_zero, List.set_cons_succ]
  refine wpAnyH_take (i := 17) (oi := _) (v := ?_) rfl (by kernel_rfl) (by kernel_rfl) (by kernel_rfl) (fun _ _ _ h => h) (Or.inl ⟨by rfl, ?_⟩) (by assumption) ?_
  rotate_left
  · (intro W hSw; obtain ⟨h0, h1, h2, h3, h4, hf0⟩ := hSw.1.2.1.cells; obtain ⟨e0, e1, e2, e3, e4, e5, e6, e7, e8, hf1⟩ := hSw.1.2.2.cells; go_simp; try with_reducible rfl)
  try simp only [Act.put, List.getElem_toArray, List.getElem_cons_succ, List.getElem_cons_zero, List.setIfInBounds_toArray, List.set_cons_zero, List.set_cons_succ]
  refine wpAnyH_take (i := 18) (oi := _) (v := ?_) rfl (by kernel_rfl) (by kernel_rfl) (by kernel_rfl) (fun _ _ _ h => h) (Or.inl ⟨by rfl, ?_⟩) (by assumption) ?_
  rotate_left
  · (intro W hSw; obtain ⟨h0, h1, h2, h3, h4, hf0⟩ := hSw.1.2.1.cells; obtain ⟨e0, e1, e2, e3, e4, e5, e6, e7, e8, hf1⟩ := hSw.1.2.2.cells; go_simp; try with_reducible rfl)
  try simp only [Act.put, List.getElem_toArray, List.getElem_cons_succ, List.getElem_cons_zero, List.setIfInBounds_toArray, List.set_cons_zero, List.set_cons_succ]
  refine wpAnyH_done (by kernel_rfl) ?_ _
  have H1 := Lib.hid hHeld
  clear hHeld H0 hb1
  go_upto_region 3 with fail
  refine wp_region_held_drew (S := PO w p E M N s E2 M2 N2 s2) (by kernel_rfl) (PO.drew H1.out) (fun hHeld => ?_)
  refine wpAnyH_take (i := 0) (oi := _) (v := ?_) rfl (by kernel_rfl) (by kernel_rfl) (by kernel_rfl) (fun _ _ _ h => h) (Or.inl ⟨by rfl, ?_⟩) (by assumption) ?_
  rotate_left
  · (intro W hSw; obtain ⟨h0, h1, h2, h3, h4, hf0⟩ := hSw.1.2.1.cells; obtain ⟨e0, e1, e2, e3, e4, e5, e6, e7, e8, hf1⟩ := hSw.2.cells; have hlk := HLk.out _ hSw.2; go_simp; try with_reducible rfl)
  try simp only [Act.put, List.getElem_toArray, List.getElem_cons_zero, List.setIfInBounds_toArray, List.set_cons_zero, List.set_cons_succ]
  refine wpAnyH_take (i := 1) (oi := _) (v := ?_) rfl (by kernel_rfl) (by kernel_rfl) (by kernel_rfl) (fun _ _ _ h => h) (Or.inl ⟨by rfl, ?_⟩) (by assumption) ?_
  rotate_left
  · (intro W hSw; obtain ⟨h0, h1, h2, h3, h4, hf0⟩ := hSw.1.2.1.cells; obtain ⟨e0, e1, e2, e3, e4, e5, e6, e7, e8, hf1⟩ := hSw.2.cells; have hlk := HLk.out _ hSw.2; go_simp; try with_reducible rfl)
  try simp only [Act.put, List.getElem_toArray, List.getElem_cons_succ, List.getElem_cons_zero, List.setIfInBounds_toArray, List.set_cons_zero, List.set_cons_succ]
  refine wpAnyH_take (i := 2) (oi := _) (v := ?_) rfl (by kernel_rfl) (by kernel_rfl) (by kernel_rfl) (fun _ _ _ h => h) (Or.inl ⟨by rfl, ?_⟩) (by assumption) ?_
  rotate_left
  · (intro W hSw; obtain ⟨h0, h1, h2, h3, h4, hf0⟩ := hSw.1.2.1.cells; obtain ⟨e0, e1, e2, e3, e4, e5, e6, e7, e8, hf1⟩ := hSw.2.cells; have hlk := HLk.out _ hSw.2; go_simp; try with_reducible rfl)
  try simp only [Act.put, List.getElem_toArray, List.getElem_cons_succ, List.getElem_cons_zero, List.setIfInBounds_toArray, List.set_cons_zero, List.set_cons_succ]
  refine wpAnyH_take (i := 3) (oi := _) (v := ?_) rfl (by kernel_rfl) (by kernel_rfl) (by kernel_rfl) (fun _ _ _ h => h) (Or.inl ⟨by rfl, ?_⟩) (by assumption) ?_
  rotate_left
  · (intro W hSw; obtain ⟨h0, h1, h2, h3, h4, hf0⟩ := hSw.1.2.1.cells; obtain ⟨e0, e1, e2, e3, e4, e5, e6, e7, e8, hf1⟩ := hSw.2.cells; have hlk := HLk.out _ hSw.2; go_simp; try with_reducible rfl)
  try simp only [Act.put, List.getElem_toArray, List.getElem_cons_succ, List.getElem_cons_zero, List.setIfInBounds_toArray, List.set_cons_zero, List.set_cons_succ]
  refine wpAnyH_take (i := 4) (oi := _) (v := ?_) rfl (by kernel_rfl) (by kernel_rfl) (by kernel_rfl) (fun _ _ _ h => h) (Or.inl ⟨by rfl, ?_⟩) (by assumption) ?_
  rotate_left
  · (intro W hSw; obtain ⟨h0, h1, h2, h3, h4, hf0⟩ := hSw.1.2.1.cells; obtain ⟨e0, e1, e2, e3, e4, e5, e6, e7, e8, hf1⟩ := hSw.2.cells; have hlk := HLk.out _ hSw.2; go_simp; try with_reducible rfl)
  try simp only [Act.put, List.getElem_toArray, List.getElem_cons_succ, List.getElem_cons_zero, List.setIfInBounds_toArray, List.set_cons_zero, List.set_cons_succ]
  refine wpAnyH_take (i := 5) (oi := _) (v := ?_) rfl (by kernel_rfl) (by kernel_rfl) (by kernel_rfl) (fun _ _ _ h => h) (Or.inl ⟨by rfl, ?_⟩) (by assumption) ?_
  rotate_left
  · (intro W hSw; obtain ⟨h0, h1, h2, h3, h4, hf0⟩ := hSw.1.2.1.cells; obtain ⟨e0, e1, e2, e3, e4, e5, e6, e7, e8, hf1⟩ := hSw.2.cells; have hlk := HLk.out _ hSw.2; go_simp; try with_reducible rfl)
  try simp only [Act.put, List.getElem_toArray, List.getElem_cons_succ, List.getElem_cons_zero, List.setIfInBounds_toArray, List.set_cons_zero, List.set_cons_succ]
  refine wpAnyH_take (i := 6) (oi := _) (v := ?_) rfl (by kernel_rfl) (by kernel_rfl) (by kernel_rfl) (fun _ _ _ h => h) (Or.inl ⟨by rfl, ?_⟩) (by assumption) ?_
  rotate_left
  · (intro W hSw; obtain ⟨h0, h1, h2, h3, h4, hf0⟩ := hSw.1.2.1.cells; obtain ⟨e0, e1, e2, e3, e4, e5, e6, e7, e8, hf1⟩ := hSw.2.cells; have hlk := HLk.out _ hSw.2; go_simp; try with_reducible rfl)
  try simp only [Act.put, List.getElem_toArray, List.getElem_cons_succ, List.getElem_cons_zero, List.setIfInBounds_toArray, List.set_cons_zero, List.set_cons_succ]
  refine wpAnyH_take (i := 7) (oi := _) (v := ?_) rfl (by kernel_rfl) (by kernel_rfl) (by kernel_rfl) (fun _ _ _ h => h) (Or.inl ⟨by rfl, ?_⟩) (by assumption) ?_
  rotate_left
  · (intro W hSw; obtain ⟨h0, h1, h2, h3, h4, hf0⟩ := hSw.1.2.1.cells; obtain ⟨e0, e1, e2, e3, e4, e5, e6, e7, e8, hf1⟩ := hSw.2.cells; have hlk := HLk.out _ hSw.2; go_simp; try with_reducible rfl)
  try simp only [Act.put, List.getElem_toArray, List.getElem_cons_succ, List.getElem_cons_zero, List.setIfInBounds_toArray, List.set_cons_zero, List.set_cons_succ]
  refine wpAnyH_take (i := 8) (oi := _) (v := ?_) rfl (by kernel_rfl) (by kernel_rfl) (by kernel_rfl) (fun _ _ _ h => h) (Or.inl ⟨by rfl, ?_⟩) (by assumption) ?_
  rotate_left
  · (intro W hSw; obtain ⟨h0, h1, h2, h3, h4, hf0⟩ := hSw.1.2.1.cells; obtain ⟨e0, e1, e2, e3, e4, e5, e6, e7, e8, hf1⟩ := hSw.2.cells; have hlk := HLk.out _ hSw.2; go_simp; try with_reducible rfl)
  try simp only [Act.put, List.getElem_toArray, List.getElem_cons_succ, List.getElem_cons_zero, List.setIfInBounds_toArray, List.set_cons_zero, List.set_cons_succ]
  refine wpAnyH_take (i := 9) (oi := _) (v := ?_) rfl (by kernel_rfl) (by kernel_rfl) (by kernel_rfl) (fun _ _ _ h => h) (Or.inl ⟨by rfl, ?_⟩) (by assumption) ?_
  rotate_left
  · (intro W hSw; obtain ⟨h0, h1, h2, h3, h4, hf0⟩ := hSw.1.2.1.cells; obtain ⟨e0, e1, e2, e3, e4, e5, e6, e7, e8, hf1⟩ := hSw.2.cells; have hlk := HLk.out _ hSw.2; go_simp; try with_reducible rfl)
  try simp only [Act.put, List.getElem_toArray, List.getElem_cons_succ, List.getElem_cons_zero, List.setIfInBounds_toArray, List.set_cons_zero, List.set_cons_succ]
  refine wpAnyH_ready (rs := [10]) (by kernel_rfl) (by simp) ?_
  refine AllReadyH.cons rfl (fun K hK => ?_) AllReadyH.nil
  simp only [List.getElem_toArray, List.getElem_cons_succ, List.getElem_cons_zero]
  rw [if_pos (by rfl)]
  go_simp
  refine hK.out _ _ (PO.call hHeld ((Below.refl _ _).alloc (Nat.le_refl _) _)) (fun hHeld => ?_)
  clear hK K
  try simp only [Act.put, List.getElem_toArray, List.getElem_cons_succ, List.getElem_cons_zero, List.setIfInBounds_toArray, List.set_cons_zero, List.set_cons_succ]
  have hst : (storeCells ⟨w1.heap.size, 0, none⟩ C.toList).run Tryd.prog (w1.alloc (.cells #[.int .u8 0, .int .u8 0, .int .u8 0, .int .u8 0, .int .u8 0, .int .u8 0, .int .u8 0, .int .u8 0, .int .u8 0, .int .u8 0, .int .u8 0, .int .u8 0, .int .u8 0, .int .u8 0, .int .u8 0, .int .u8 0, .int .u8 0, .int .u8 0, .int .u8 0, .int .u8 0, .int .u8 0, .int .u8 0, .int .u8 0, .int .u8 0, .int .u8 0, .int .u8 0, .int .u8 0, .int .u8 0, .int .u8 0, .int .u8 0, .int .u8 0, .int .u8 0] TSm)).drew = .ok () (w1.alloc (.cells C TSm)).drew := run_storeCells_new (P := Tryd.prog) w1.drew TSm #[.int .u8 0, .int .u8 0, .int .u8 0, .int .u8 0, .int .u8 0, .int .u8 0, .int .u8 0, .int .u8 0, .int .u8 0, .int .u8 0, .int .u8 0, .int .u8 0, .int .u8 0, .int .u8 0, .int .u8 0, .int .u8 0, .int .u8 0, .int .u8 0, .int .u8 0, .int .u8 0, .int .u8 0, .int .u8 0, .int .u8 0, .int .u8 0, .int .u8 0, .int .u8 0, .int .u8 0, .int .u8 0, .int .u8 0, .int .u8 0, .int .u8 0, .int .u8 0] C (i32 C HC.out.1) (by rw [HC.out.1]; rfl) HC.out.2.1
  have hCz := HC.out.1
  refine wpAnyH_ready (rs := [11]) (by kernel_rfl) (by simp) ?_
  refine AllReadyH.cons rfl (fun K hK => ?_) AllReadyH.nil
  simp only [List.getElem_toArray, List.getElem_cons_succ, List.getElem_cons_zero]
  rw [if_pos (by rfl)]
  go_simp
  refine hK.out _ _ (PO.call (PO.drew H1.out) ((Below.refl _ _).alloc (Nat.le_refl _) _)) (fun hHeld => ?_)
  clear hK K
  try simp only [Act.put, List.getElem_toArray, List.getElem_cons_succ, List.getElem_cons_zero, List.setIfInBounds_toArray, List.set_cons_zero, List.set_cons_succ]
  refine wpAnyH_take (i := 12) (oi := _) (v := ?_) rfl (by kernel_rfl) (by kernel_rfl) (by kernel_rfl) (fun _ _ _ h => h) (Or.inl ⟨by rfl, ?_⟩) (by assumption) ?_
  rotate_left
  · (intro W hSw; obtain ⟨h0, h1, h2, h3, h4, hf0⟩ := hSw.1.2.1.cells; obtain ⟨e0, e1, e2, e3, e4, e5, e6, e7, e8, hf1⟩ := hSw.2.cells; have hlk := HLk.out _ hSw.2; go_simp; try with_reducible rfl)
  try simp only [Act.put, List.getElem_toArray, List.getElem_cons_succ, List.getElem_cons_zero, List.setIfInBounds_toArray, List.set_cons_zero, List.set_cons_succ]
  refine wpAnyH_done (by kernel_rfl) ?_ _
  have H3 : Hid (PO w p E M N s E2 M2 N2 s2 ((w1.alloc (.cells C TSm)).drew) ∧ (w1.alloc (.cells C TSm)).drew.heap[w1.heap.size]? = some (.cells C TSm (0, 0))) := Lib.hid ⟨hHeld, heap_alloc_new w1.drew _⟩
  obtain ⟨w3, hw3⟩ : ∃ X, X = (w1.alloc (.cells C TSm)).drew := ⟨_, rfl⟩
  obtain ⟨G, hG⟩ : ∃ X, X = w1.heap.size := ⟨_, rfl⟩
  rw [← hw3] at H3 ⊢
  rw [← hG] at H3 ⊢
  clear hw3 hG hst hHeld H1
  obtain ⟨h0, h1, h2, h3, h4, hf0⟩ := H3.out.1.1.2.1.cells
  obtain ⟨e0, e1, e2, e3, e4, e5, e6, e7, e8, hf1⟩ := H3.out.1.1.2.2.cells
  go_wp2_with fail
  refine (HRc.out _ H3.out.1.1.2.2).mono ?_
  rintro _ w4 ⟨rfl, b4⟩
  have H4 : Hid (PO w p E M N s E2 M2 N2 s2 w4 ∧ w4.heap[G]? = some (.cells C TSm (0, 0))) := Lib.hid ⟨PO.call H3.out.1 b4, (b4.block _ (lt_of H3.out.2)).trans H3.out.2⟩
  clear h0 h1 h2 h3 h4 hf0 e0 e1 e2 e3 e4 e5 e6 e7 e8 hf1 b4 H3
  obtain ⟨h0, h1, h2, h3, h4, hf0⟩ := H4.out.1.1.2.1.cells
  obtain ⟨e0, e1, e2, e3, e4, e5, e6, e7, e8, hf1⟩ := H4.out.1.1.2.2.cells
  go_wp2_with fail
  refine (HLt.out _).mono ?_
  rintro _ w5 ⟨rfl, b5⟩
  have H5 : Hid (PO w p E M N s E2 M2 N2 s2 w5 ∧ w5.heap[G]? = some (.cells C TSm (0, 0))) := Lib.hid ⟨PO.call H4.out.1 b5, (b5.block _ (lt_of H4.out.2)).trans H4.out.2⟩
  clear h0 h1 h2 h3 h4 hf0 e0 e1 e2 e3 e4 e5 e6 e7 e8 hf1 b5 H4
  obtain ⟨h0, h1, h2, h3, h4, hf0⟩ := H5.out.1.1.2.1.cells
  obtain ⟨e0, e1, e2, e3, e4, e5, e6, e7, e8, hf1⟩ := H5.out.1.1.2.2.cells
  go_wp2
  go_ret2
  exact ⟨rfl, H5.out.1.1.1⟩
set_option maxRecDepth 20000 in
set_option maxHeartbeats 4000000 in
theorem recv_other {w : World} {E M N E2 M2 N2 : Nat} {s s2 : St} (p : P5) (h x : Int) (hT : Sha.Tab w) (hL : LG w E M N s) (hO : LG w E2 M2 N2 s2) (hx : IntKind.i64.wrap (1 - s.sd) = x) (hfb : fitG s p x = true) (hcl : s.cl = false) (hr : (lk p.s s.ac).isSome = false) (hlt : lateB p h = false) (hk : (lk p.s s2.cm).isSome = true) (hp : p.ok) (hC2 : sumOf p.s s2.cm ≠ sumP p) :
    Calls Tryd.prog 9 #[.pointer (some ⟨E, 0, none⟩), pkv p, .int .u64 h, .pointer (some ⟨E2, 0, none⟩)] w fun e w' => e = .returned (.tuple #[.string ⟨#[]⟩, .int .i64 18]) ∧ Below w.heap.size w w' := by
  have HRc := Lib.hid (fun W (hW : LG W E M N s) => hr ▸ received_g p.s hW)
  clear hr
  have HLt := Lib.hid (fun W => hlt ▸ late_g p h W)
  clear hlt
  obtain ⟨b, hb, hne⟩ := neq_sum (sumOf p.s s2.cm) (sumP p) (sumOf_ok hO.cok) (sumP_ok p)
  have hbv : b = false := by cases b with | false => rfl | true => exact absurd (hb.1 rfl) hC2
  rw [hbv] at hne
  have hS := sum_g p ((fitG_iff s p x).1 hfb).1 hp
  have hlk := fun W (hW : LG W E2 M2 N2 s2) => look_g p.s M2 s2.cm W hW.com
  have hC := sumOf_ok (k := p.s) hO.cok
  simp only [hk] at hlk
  generalize sumOf p.s s2.cm = C at *
  generalize sumP p = D at *
  have HNe := Lib.hid hne
  have HS := Lib.hid hS
  clear hne hS hp hb hbv hC2
  have HLk := Lib.hid hlk
  have HC := Lib.hid hC
  clear hlk hC
  have HF := Lib.hid (fun W (hW : LG W E M N s) => hfb ▸ fits_g p x hW)
  have H0 := Lib.hid (PO.new (p := p) hL hO)
  have HEl := Lib.hid (And.intro hL.lt (And.intro hL.en (And.intro hL.mn (And.intro hL.cok hL.aok))))
  have HT := Lib.hid hT
  have HL0 := Lib.hid hL
  clear hfb hL hO hT
  go_enter Tryd.func9, Tryd.ntmps9
  go_upto_region 1 with fail
  refine wp_region_held_drew (S := PO w p E M N s E2 M2 N2 s2) (by kernel_rfl) (PO.drew H0.out) (fun hHeld => ?_)
  refine wpAnyH_take (i := 0) (oi := _) (v := ?_) rfl (by kernel_rfl) (by kernel_rfl) (by kernel_rfl) (fun _ _ _ h => h) (Or.inl ⟨by rfl, ?_⟩) (by assumption) ?_
  rotate_left
  · (intro W hSw; obtain ⟨h0, h1, h2, h3, h4, hf0⟩ := hSw.1.2.1.cells; obtain ⟨e0, e1, e2, e3, e4, e5, e6, e7, e8, hf1⟩ := hSw.1.2.2.cells; go_simp; try with_reducible rfl)
  try simp only [Act.put, List.getElem_toArray, List.getElem_cons_zero, List.setIfInBounds_toArray, List.set_cons_zero, List.set_cons_succ]
  refine wpAnyH_ready (rs := [1]) (by kernel_rfl) (by simp) ?_
  refine AllReadyH.cons rfl (fun K hK => ?_) AllReadyH.nil
  simp only [List.getElem_toArray, List.getElem_cons_succ, List.getElem_cons_zero]
  rw [if_pos (by rfl)]
  go_simp
  (refine (made_g hHeld.1.2.2).mono ?_; rintro e w1 ⟨rfl, hw⟩; obtain rfl := hw.symm; clear hw)
  go_wp2_with fail
  refine hK.out _ _ hHeld (fun hHeld => ?_)
  clear hK K
  try simp only [Act.put, List.getElem_toArray, List.getElem_cons_succ, List.getElem_cons_zero, List.setIfInBounds_toArray, List.set_cons_zero, List.set_cons_succ]
  refine wpAnyH_take (i := 2) (oi := _) (v := ?_) rfl (by kernel_rfl) (by kernel_rfl) (by kernel_rfl) (fun _ _ _ h => h) (Or.inl ⟨by rfl, ?_⟩) (by assumption) ?_
  rotate_left
  · (intro W hSw; obtain ⟨h0, h1, h2, h3, h4, hf0⟩ := hSw.1.2.1.cells; obtain ⟨e0, e1, e2, e3, e4, e5, e6, e7, e8, hf1⟩ := hSw.1.2.2.cells; go_simp; try with_reducible rfl)
  try simp only [Act.put, List.getElem_toArray, List.getElem_cons_succ, List.getElem_cons_zero, List.setIfInBounds_toArray, List.set_cons_zero, List.set_cons_succ]
  refine wpAnyH_take (i := 3) (oi := _) (v := ?_) rfl (by kernel_rfl) (by kernel_rfl) (by kernel_rfl) (fun _ _ _ h => h) (Or.inl ⟨by rfl, ?_⟩) (by assumption) ?_
  rotate_left
  · (intro W hSw; obtain ⟨h0, h1, h2, h3, h4, hf0⟩ := hSw.1.2.1.cells; obtain ⟨e0, e1, e2, e3, e4, e5, e6, e7, e8, hf1⟩ := hSw.1.2.2.cells; go_simp; try with_reducible rfl)
  try simp only [Act.put, List.getElem_toArray, List.getElem_cons_succ, List.getElem_cons_zero, List.setIfInBounds_toArray, List.set_cons_zero, List.set_cons_succ]
  refine wpAnyH_take (i := 4) (oi := _) (v := ?_) rfl (by kernel_rfl) (by kernel_rfl) (by kernel_rfl) (fun _ _ _ h => h) (Or.inl ⟨by rfl, ?_⟩) (by assumption) ?_
  rotate_left
  · (intro W hSw; obtain ⟨h0, h1, h2, h3, h4, hf0⟩ := hSw.1.2.1.cells; obtain ⟨e0, e1, e2, e3, e4, e5, e6, e7, e8, hf1⟩ := hSw.1.2.2.cells; go_simp; try with_reducible rfl)
  try simp only [Act.put, List.getElem_toArray, List.getElem_cons_succ, List.getElem_cons_zero, List.setIfInBounds_toArray, List.set_cons_zero, List.set_cons_succ]
  refine wpAnyH_ready (rs := [5]) (by kernel_rfl) (by simp) ?_
  refine AllReadyH.cons rfl (fun K hK => ?_) AllReadyH.nil
  simp only [List.getElem_toArray, List.getElem_cons_succ, List.getElem_cons_zero]
  rw [if_pos (by rfl)]
  go_simp
  (refine (made_g hHeld.2).mono ?_; rintro e w1 ⟨rfl, hw⟩; obtain rfl := hw.symm; clear hw)
  go_wp2_with fail
  refine hK.out _ _ hHeld (fun hHeld => ?_)
  clear hK K
  try simp only [Act.put, List.getElem_toArray, List.getElem_cons_succ, List.getElem_cons_zero, List.setIfInBounds_toArray, List.set_cons_zero, List.set_cons_succ]
  refine wpAnyH_take (i := 6) (oi := _) (v := ?_) rfl (by kernel_rfl) (by kernel_rfl) (by kernel_rfl) (fun _ _ _ h => h) (Or.inl ⟨by rfl, ?_⟩) (by assumption) ?_
  rotate_left
  · (intro W hSw; obtain ⟨h0, h1, h2, h3, h4, hf0⟩ := hSw.1.2.1.cells; obtain ⟨e0, e1, e2, e3, e4, e5, e6, e7, e8, hf1⟩ := hSw.1.2.2.cells; go_simp; try with_reducible rfl)
  try simp only [Act.put, List.getElem_toArray, List.getElem_cons_succ, List.getElem_cons_zero, List.setIfInBounds_toArray, List.set_cons_zero, List.set_cons_succ]
  refine wpAnyH_take (i := 7) (oi := _) (v := ?_) rfl (by kernel_rfl) (by kernel_rfl) (by kernel_rfl) (fun _ _ _ h => h) (Or.inl ⟨by rfl, ?_⟩) (by assumption) ?_
  rotate_left
  · (intro W hSw; obtain ⟨h0, h1, h2, h3, h4, hf0⟩ := hSw.1.2.1.cells; obtain ⟨e0, e1, e2, e3, e4, e5, e6, e7, e8, hf1⟩ := hSw.1.2.2.cells; go_simp; try with_reducible rfl)
  try simp only [Act.put, List.getElem_toArray, List.getElem_cons_succ, List.getElem_cons_zero, List.setIfInBounds_toArray, List.set_cons_zero, List.set_cons_succ]
  refine wpAnyH_take (i := 8) (oi := _) (v := ?_) rfl (by kernel_rfl) (by kernel_rfl) (by kernel_rfl) (fun _ _ _ h => h) (Or.inl ⟨by rfl, ?_⟩) (by assumption) ?_
  rotate_left
  · (intro W hSw; obtain ⟨h0, h1, h2, h3, h4, hf0⟩ := hSw.1.2.1.cells; obtain ⟨e0, e1, e2, e3, e4, e5, e6, e7, e8, hf1⟩ := hSw.1.2.2.cells; go_simp; try with_reducible rfl)
  try simp only [Act.put, List.getElem_toArray, List.getElem_cons_succ, List.getElem_cons_zero, List.setIfInBounds_toArray, List.set_cons_zero, List.set_cons_succ]
  refine wpAnyH_take (i := 9) (oi := _) (v := ?_) rfl (by kernel_rfl) (by kernel_rfl) (by kernel_rfl) (fun _ _ _ h => h) (Or.inl ⟨by rfl, ?_⟩) (by assumption) ?_
  rotate_left
  · (intro W hSw; obtain ⟨h0, h1, h2, h3, h4, hf0⟩ := hSw.1.2.1.cells; obtain ⟨e0, e1, e2, e3, e4, e5, e6, e7, e8, hf1⟩ := hSw.1.2.2.cells; go_simp; try with_reducible rfl)
  try simp only [Act.put, List.getElem_toArray, List.getElem_cons_succ, List.getElem_cons_zero, List.setIfInBounds_toArray, List.set_cons_zero, List.set_cons_succ]
  refine wpAnyH_take (i := 10) (oi := _) (v := ?_) rfl (by kernel_rfl) (by kernel_rfl) (by kernel_rfl) (fun _ _ _ h => h) (Or.inl ⟨by rfl, ?_⟩) (by assumption) ?_
  rotate_left
  · (intro W hSw; obtain ⟨h0, h1, h2, h3, h4, hf0⟩ := hSw.1.2.1.cells; obtain ⟨e0, e1, e2, e3, e4, e5, e6, e7, e8, hf1⟩ := hSw.1.2.2.cells; go_simp; try with_reducible rfl)
  try simp only [Act.put, List.getElem_toArray, List.getElem_cons_succ, List.getElem_cons_zero, List.setIfInBounds_toArray, List.set_cons_zero, List.set_cons_succ]
  refine wpAnyH_take (i := 11) (oi := _) (v := ?_) rfl (by kernel_rfl) (by kernel_rfl) (by kernel_rfl) (fun _ _ _ h => h) (Or.inl ⟨by rfl, ?_⟩) (by assumption) ?_
  rotate_left
  · (intro W hSw; obtain ⟨h0, h1, h2, h3, h4, hf0⟩ := hSw.1.2.1.cells; obtain ⟨e0, e1, e2, e3, e4, e5, e6, e7, e8, hf1⟩ := hSw.1.2.2.cells; go_simp; try with_reducible rfl)
  try simp only [Act.put, List.getElem_toArray, List.getElem_cons_succ, List.getElem_cons_zero, List.setIfInBounds_toArray, List.set_cons_zero, List.set_cons_succ]
  refine wpAnyH_take (i := 12) (oi := _) (v := ?_) rfl (by kernel_rfl) (by kernel_rfl) (by kernel_rfl) (fun _ _ _ h => h) (Or.inl ⟨by rfl, ?_⟩) (by assumption) ?_
  rotate_left
  · (intro W hSw; obtain ⟨h0, h1, h2, h3, h4, hf0⟩ := hSw.1.2.1.cells; obtain ⟨e0, e1, e2, e3, e4, e5, e6, e7, e8, hf1⟩ := hSw.1.2.2.cells; go_simp; try with_reducible rfl)
  try simp only [Act.put, List.getElem_toArray, List.getElem_cons_succ, List.getElem_cons_zero, List.setIfInBounds_toArray, List.set_cons_zero, List.set_cons_succ]
  refine wpAnyH_take (i := 13) (oi := _) (v := ?_) rfl (by kernel_rfl) (by kernel_rfl) (by kernel_rfl) (fun _ _ _ h => h) (Or.inl ⟨by rfl, ?_⟩) (by assumption) ?_
  rotate_left
  · (intro W hSw; obtain ⟨h0, h1, h2, h3, h4, hf0⟩ := hSw.1.2.1.cells; obtain ⟨e0, e1, e2, e3, e4, e5, e6, e7, e8, hf1⟩ := hSw.1.2.2.cells; go_simp; try with_reducible rfl)
  try simp only [Act.put, List.getElem_toArray, List.getElem_cons_succ, List.getElem_cons_zero, List.setIfInBounds_toArray, List.set_cons_zero, List.set_cons_succ]
  refine wpAnyH_take (i := 14) (oi := _) (v := ?_) rfl (by kernel_rfl) (by kernel_rfl) (by kernel_rfl) (fun _ _ _ h => h) (Or.inl ⟨by rfl, ?_⟩) (by assumption) ?_
  rotate_left
  · (intro W hSw; obtain ⟨h0, h1, h2, h3, h4, hf0⟩ := hSw.1.2.1.cells; obtain ⟨e0, e1, e2, e3, e4, e5, e6, e7, e8, hf1⟩ := hSw.1.2.2.cells; go_simp; try with_reducible rfl)
  try simp only [Act.put, List.getElem_toArray, List.getElem_cons_succ, List.getElem_cons_zero, List.setIfInBounds_toArray, List.set_cons_zero, List.set_cons_succ]
  refine wpAnyH_take (i := 15) (oi := _) (v := ?_) rfl (by kernel_rfl) (by kernel_rfl) (by kernel_rfl) (fun _ _ _ h => h) (Or.inl ⟨by rfl, ?_⟩) (by assumption) ?_
  rotate_left
  · (intro W hSw; obtain ⟨h0, h1, h2, h3, h4, hf0⟩ := hSw.1.2.1.cells; obtain ⟨e0, e1, e2, e3, e4, e5, e6, e7, e8, hf1⟩ := hSw.1.2.2.cells; go_simp; try with_reducible rfl)
  try simp only [Act.put, List.getElem_toArray, List.getElem_cons_succ, List.getElem_cons_zero, List.setIfInBounds_toArray, List.set_cons_zero, List.set_cons_succ]
  refine wpAnyH_ready (rs := [16]) (by kernel_rfl) (by simp) ?_
  refine AllReadyH.cons rfl (fun K hK => ?_) AllReadyH.nil
  simp only [List.getElem_toArray, List.getElem_cons_succ, List.getElem_cons_zero]
  rw [if_pos (by rfl)]
  go_simp
  (refine (HF.out _ hHeld.1.2.2).mono ?_; rintro e w1 ⟨rfl, hb1⟩)
  go_wp2_with fail
  refine hK.out _ _ (PO.call hHeld hb1) (fun hHeld => ?_)
  clear hK K
  try simp only [Act.put, List.getElem_toArray, List.getElem_cons_succ, List.getElem_cons_zero, List.setIfInBounds_toArray, List.set_cons_zero, List.set_cons_succ]
  refine wpAnyH_take (i := 17) (oi := _) (v := ?_) rfl (by kernel_rfl) (by kernel_rfl) (by kernel_rfl) (fun _ _ _ h => h) (Or.inl ⟨by rfl, ?_⟩) (by assumption) ?_
  rotate_left
  · (intro W hSw; obtain ⟨h0, h1, h2, h3, h4, hf0⟩ := hSw.1.2.1.cells; obtain ⟨e0, e1, e2, e3, e4, e5, e6, e7, e8, hf1⟩ := hSw.1.2.2.cells; go_simp; try with_reducible rfl)
  try simp only [Act.put, List.getElem_toArray, List.getElem_cons_succ, List.getElem_cons_zero, List.setIfInBounds_toArray, List.set_cons_zero, List.set_cons_succ]
  refine wpAnyH_take (i := 18) (oi := _) (v := ?_) rfl (by kernel_rfl) (by kernel_rfl) (by kernel_rfl) (fun _ _ _ h => h) (Or.inl ⟨by rfl, ?_⟩) (by assumption) ?_
  rotate_left
  · (intro W hSw; obtain ⟨h0, h1, h2, h3, h4, hf0⟩ := hSw.1.2.1.cells; obtain ⟨e0, e1, e2, e3, e4, e5, e6, e7, e8, hf1⟩ := hSw.1.2.2.cells; go_simp; try with_reducible rfl)
  try simp only [Act.put, List.getElem_toArray, List.getElem_cons_succ, List.getElem_cons_zero, List.setIfInBounds_toArray, List.set_cons_zero, List.set_cons_succ]
  refine wpAnyH_done (by kernel_rfl) ?_ _
  have H1 := Lib.hid hHeld
  clear hHeld H0 hb1
  go_upto_region 3 with fail
  refine wp_region_held_drew (S := PO w p E M N s E2 M2 N2 s2) (by kernel_rfl) (PO.drew H1.out) (fun hHeld => ?_)
  refine wpAnyH_take (i := 0) (oi := _) (v := ?_) rfl (by kernel_rfl) (by kernel_rfl) (by kernel_rfl) (fun _ _ _ h => h) (Or.inl ⟨by rfl, ?_⟩) (by assumption) ?_
  rotate_left
  · (intro W hSw; obtain ⟨h0, h1, h2, h3, h4, hf0⟩ := hSw.1.2.1.cells; obtain ⟨e0, e1, e2, e3, e4, e5, e6, e7, e8, hf1⟩ := hSw.2.cells; have hlk := HLk.out _ hSw.2; go_simp; try with_reducible rfl)
  try simp only [Act.put, List.getElem_toArray, List.getElem_cons_zero, List.setIfInBounds_toArray, List.set_cons_zero, List.set_cons_succ]
  refine wpAnyH_take (i := 1) (oi := _) (v := ?_) rfl (by kernel_rfl) (by kernel_rfl) (by kernel_rfl) (fun _ _ _ h => h) (Or.inl ⟨by rfl, ?_⟩) (by assumption) ?_
  rotate_left
  · (intro W hSw; obtain ⟨h0, h1, h2, h3, h4, hf0⟩ := hSw.1.2.1.cells; obtain ⟨e0, e1, e2, e3, e4, e5, e6, e7, e8, hf1⟩ := hSw.2.cells; have hlk := HLk.out _ hSw.2; go_simp; try with_reducible rfl)
  try simp only [Act.put, List.getElem_toArray, List.getElem_cons_succ, List.getElem_cons_zero, List.setIfInBounds_toArray, List.set_cons_zero, List.set_cons_succ]
  refine wpAnyH_take (i := 2) (oi := _) (v := ?_) rfl (by kernel_rfl) (by kernel_rfl) (by kernel_rfl) (fun _ _ _ h => h) (Or.inl ⟨by rfl, ?_⟩) (by assumption) ?_
  rotate_left
  · (intro W hSw; obtain ⟨h0, h1, h2, h3, h4, hf0⟩ := hSw.1.2.1.cells; obtain ⟨e0, e1, e2, e3, e4, e5, e6, e7, e8, hf1⟩ := hSw.2.cells; have hlk := HLk.out _ hSw.2; go_simp; try with_reducible rfl)
  try simp only [Act.put, List.getElem_toArray, List.getElem_cons_succ, List.getElem_cons_zero, List.setIfInBounds_toArray, List.set_cons_zero, List.set_cons_succ]
  refine wpAnyH_take (i := 3) (oi := _) (v := ?_) rfl (by kernel_rfl) (by kernel_rfl) (by kernel_rfl) (fun _ _ _ h => h) (Or.inl ⟨by rfl, ?_⟩) (by assumption) ?_
  rotate_left
  · (intro W hSw; obtain ⟨h0, h1, h2, h3, h4, hf0⟩ := hSw.1.2.1.cells; obtain ⟨e0, e1, e2, e3, e4, e5, e6, e7, e8, hf1⟩ := hSw.2.cells; have hlk := HLk.out _ hSw.2; go_simp; try with_reducible rfl)
  try simp only [Act.put, List.getElem_toArray, List.getElem_cons_succ, List.getElem_cons_zero, List.setIfInBounds_toArray, List.set_cons_zero, List.set_cons_succ]
  refine wpAnyH_take (i := 4) (oi := _) (v := ?_) rfl (by kernel_rfl) (by kernel_rfl) (by kernel_rfl) (fun _ _ _ h => h) (Or.inl ⟨by rfl, ?_⟩) (by assumption) ?_
  rotate_left
  · (intro W hSw; obtain ⟨h0, h1, h2, h3, h4, hf0⟩ := hSw.1.2.1.cells; obtain ⟨e0, e1, e2, e3, e4, e5, e6, e7, e8, hf1⟩ := hSw.2.cells; have hlk := HLk.out _ hSw.2; go_simp; try with_reducible rfl)
  try simp only [Act.put, List.getElem_toArray, List.getElem_cons_succ, List.getElem_cons_zero, List.setIfInBounds_toArray, List.set_cons_zero, List.set_cons_succ]
  refine wpAnyH_take (i := 5) (oi := _) (v := ?_) rfl (by kernel_rfl) (by kernel_rfl) (by kernel_rfl) (fun _ _ _ h => h) (Or.inl ⟨by rfl, ?_⟩) (by assumption) ?_
  rotate_left
  · (intro W hSw; obtain ⟨h0, h1, h2, h3, h4, hf0⟩ := hSw.1.2.1.cells; obtain ⟨e0, e1, e2, e3, e4, e5, e6, e7, e8, hf1⟩ := hSw.2.cells; have hlk := HLk.out _ hSw.2; go_simp; try with_reducible rfl)
  try simp only [Act.put, List.getElem_toArray, List.getElem_cons_succ, List.getElem_cons_zero, List.setIfInBounds_toArray, List.set_cons_zero, List.set_cons_succ]
  refine wpAnyH_take (i := 6) (oi := _) (v := ?_) rfl (by kernel_rfl) (by kernel_rfl) (by kernel_rfl) (fun _ _ _ h => h) (Or.inl ⟨by rfl, ?_⟩) (by assumption) ?_
  rotate_left
  · (intro W hSw; obtain ⟨h0, h1, h2, h3, h4, hf0⟩ := hSw.1.2.1.cells; obtain ⟨e0, e1, e2, e3, e4, e5, e6, e7, e8, hf1⟩ := hSw.2.cells; have hlk := HLk.out _ hSw.2; go_simp; try with_reducible rfl)
  try simp only [Act.put, List.getElem_toArray, List.getElem_cons_succ, List.getElem_cons_zero, List.setIfInBounds_toArray, List.set_cons_zero, List.set_cons_succ]
  refine wpAnyH_take (i := 7) (oi := _) (v := ?_) rfl (by kernel_rfl) (by kernel_rfl) (by kernel_rfl) (fun _ _ _ h => h) (Or.inl ⟨by rfl, ?_⟩) (by assumption) ?_
  rotate_left
  · (intro W hSw; obtain ⟨h0, h1, h2, h3, h4, hf0⟩ := hSw.1.2.1.cells; obtain ⟨e0, e1, e2, e3, e4, e5, e6, e7, e8, hf1⟩ := hSw.2.cells; have hlk := HLk.out _ hSw.2; go_simp; try with_reducible rfl)
  try simp only [Act.put, List.getElem_toArray, List.getElem_cons_succ, List.getElem_cons_zero, List.setIfInBounds_toArray, List.set_cons_zero, List.set_cons_succ]
  refine wpAnyH_take (i := 8) (oi := _) (v := ?_) rfl (by kernel_rfl) (by kernel_rfl) (by kernel_rfl) (fun _ _ _ h => h) (Or.inl ⟨by rfl, ?_⟩) (by assumption) ?_
  rotate_left
  · (intro W hSw; obtain ⟨h0, h1, h2, h3, h4, hf0⟩ := hSw.1.2.1.cells; obtain ⟨e0, e1, e2, e3, e4, e5, e6, e7, e8, hf1⟩ := hSw.2.cells; have hlk := HLk.out _ hSw.2; go_simp; try with_reducible rfl)
  try simp only [Act.put, List.getElem_toArray, List.getElem_cons_succ, List.getElem_cons_zero, List.setIfInBounds_toArray, List.set_cons_zero, List.set_cons_succ]
  refine wpAnyH_take (i := 9) (oi := _) (v := ?_) rfl (by kernel_rfl) (by kernel_rfl) (by kernel_rfl) (fun _ _ _ h => h) (Or.inl ⟨by rfl, ?_⟩) (by assumption) ?_
  rotate_left
  · (intro W hSw; obtain ⟨h0, h1, h2, h3, h4, hf0⟩ := hSw.1.2.1.cells; obtain ⟨e0, e1, e2, e3, e4, e5, e6, e7, e8, hf1⟩ := hSw.2.cells; have hlk := HLk.out _ hSw.2; go_simp; try with_reducible rfl)
  try simp only [Act.put, List.getElem_toArray, List.getElem_cons_succ, List.getElem_cons_zero, List.setIfInBounds_toArray, List.set_cons_zero, List.set_cons_succ]
  refine wpAnyH_ready (rs := [10]) (by kernel_rfl) (by simp) ?_
  refine AllReadyH.cons rfl (fun K hK => ?_) AllReadyH.nil
  simp only [List.getElem_toArray, List.getElem_cons_succ, List.getElem_cons_zero]
  rw [if_pos (by rfl)]
  go_simp
  refine hK.out _ _ (PO.call hHeld ((Below.refl _ _).alloc (Nat.le_refl _) _)) (fun hHeld => ?_)
  clear hK K
  try simp only [Act.put, List.getElem_toArray, List.getElem_cons_succ, List.getElem_cons_zero, List.setIfInBounds_toArray, List.set_cons_zero, List.set_cons_succ]
  have hst : (storeCells ⟨w1.heap.size, 0, none⟩ C.toList).run Tryd.prog (w1.alloc (.cells #[.int .u8 0, .int .u8 0, .int .u8 0, .int .u8 0, .int .u8 0, .int .u8 0, .int .u8 0, .int .u8 0, .int .u8 0, .int .u8 0, .int .u8 0, .int .u8 0, .int .u8 0, .int .u8 0, .int .u8 0, .int .u8 0, .int .u8 0, .int .u8 0, .int .u8 0, .int .u8 0, .int .u8 0, .int .u8 0, .int .u8 0, .int .u8 0, .int .u8 0, .int .u8 0, .int .u8 0, .int .u8 0, .int .u8 0, .int .u8 0, .int .u8 0, .int .u8 0] TSm)).drew = .ok () (w1.alloc (.cells C TSm)).drew := run_storeCells_new (P := Tryd.prog) w1.drew TSm #[.int .u8 0, .int .u8 0, .int .u8 0, .int .u8 0, .int .u8 0, .int .u8 0, .int .u8 0, .int .u8 0, .int .u8 0, .int .u8 0, .int .u8 0, .int .u8 0, .int .u8 0, .int .u8 0, .int .u8 0, .int .u8 0, .int .u8 0, .int .u8 0, .int .u8 0, .int .u8 0, .int .u8 0, .int .u8 0, .int .u8 0, .int .u8 0, .int .u8 0, .int .u8 0, .int .u8 0, .int .u8 0, .int .u8 0, .int .u8 0, .int .u8 0, .int .u8 0] C (i32 C HC.out.1) (by rw [HC.out.1]; rfl) HC.out.2.1
  have hCz := HC.out.1
  refine wpAnyH_ready (rs := [11]) (by kernel_rfl) (by simp) ?_
  refine AllReadyH.cons rfl (fun K hK => ?_) AllReadyH.nil
  simp only [List.getElem_toArray, List.getElem_cons_succ, List.getElem_cons_zero]
  rw [if_pos (by rfl)]
  go_simp
  refine hK.out _ _ (PO.call (PO.drew H1.out) ((Below.refl _ _).alloc (Nat.le_refl _) _)) (fun hHeld => ?_)
  clear hK K
  try simp only [Act.put, List.getElem_toArray, List.getElem_cons_succ, List.getElem_cons_zero, List.setIfInBounds_toArray, List.set_cons_zero, List.set_cons_succ]
  refine wpAnyH_take (i := 12) (oi := _) (v := ?_) rfl (by kernel_rfl) (by kernel_rfl) (by kernel_rfl) (fun _ _ _ h => h) (Or.inl ⟨by rfl, ?_⟩) (by assumption) ?_
  rotate_left
  · (intro W hSw; obtain ⟨h0, h1, h2, h3, h4, hf0⟩ := hSw.1.2.1.cells; obtain ⟨e0, e1, e2, e3, e4, e5, e6, e7, e8, hf1⟩ := hSw.2.cells; have hlk := HLk.out _ hSw.2; go_simp; try with_reducible rfl)
  try simp only [Act.put, List.getElem_toArray, List.getElem_cons_succ, List.getElem_cons_zero, List.setIfInBounds_toArray, List.set_cons_zero, List.set_cons_succ]
  refine wpAnyH_done (by kernel_rfl) ?_ _
  have H3 : Hid (PO w p E M N s E2 M2 N2 s2 ((w1.alloc (.cells C TSm)).drew) ∧ (w1.alloc (.cells C TSm)).drew.heap[w1.heap.size]? = some (.cells C TSm (0, 0))) := Lib.hid ⟨hHeld, heap_alloc_new w1.drew _⟩
  obtain ⟨w3, hw3⟩ : ∃ X, X = (w1.alloc (.cells C TSm)).drew := ⟨_, rfl⟩
  obtain ⟨G, hG⟩ : ∃ X, X = w1.heap.size := ⟨_, rfl⟩
  rw [← hw3] at H3 ⊢
  rw [← hG] at H3 ⊢
  clear hw3 hG hst hHeld H1
  obtain ⟨h0, h1, h2, h3, h4, hf0⟩ := H3.out.1.1.2.1.cells
  obtain ⟨e0, e1, e2, e3, e4, e5, e6, e7, e8, hf1⟩ := H3.out.1.1.2.2.cells
  go_wp2_with fail
  refine (HRc.out _ H3.out.1.1.2.2).mono ?_
  rintro _ w4 ⟨rfl, b4⟩
  have H4 : Hid (PO w p E M N s E2 M2 N2 s2 w4 ∧ w4.heap[G]? = some (.cells C TSm (0, 0))) := Lib.hid ⟨PO.call H3.out.1 b4, (b4.block _ (lt_of H3.out.2)).trans H3.out.2⟩
  clear h0 h1 h2 h3 h4 hf0 e0 e1 e2 e3 e4 e5 e6 e7 e8 hf1 b4 H3
  obtain ⟨h0, h1, h2, h3, h4, hf0⟩ := H4.out.1.1.2.1.cells
  obtain ⟨e0, e1, e2, e3, e4, e5, e6, e7, e8, hf1⟩ := H4.out.1.1.2.2.cells
  go_wp2_with fail
  refine (HLt.out _).mono ?_
  rintro _ w5 ⟨rfl, b5⟩
  have H5 : Hid (PO w p E M N s E2 M2 N2 s2 w5 ∧ w5.heap[G]? = some (.cells C TSm (0, 0))) := Lib.hid ⟨PO.call H4.out.1 b5, (b5.block _ (lt_of H4.out.2)).trans H4.out.2⟩
  clear h0 h1 h2 h3 h4 hf0 e0 e1 e2 e3 e4 e5 e6 e7 e8 hf1 b5 H4
  obtain ⟨h0, h1, h2, h3, h4, hf0⟩ := H5.out.1.1.2.1.cells
  obtain ⟨e0, e1, e2, e3, e4, e5, e6, e7, e8, hf1⟩ := H5.out.1.1.2.2.cells
  go_upto_region 8 with fail
  clear h0 h1 h2 h3 h4 hf0 e0 e1 e2 e3 e4 e5 e6 e7 e8 hf1
  refine wp_region_held_drew (S := fun W => PO w p E M N s E2 M2 N2 s2 W ∧ W.heap[G]? = some (.cells C TSm (0, 0))) (by kernel_rfl) ⟨PO.drew H5.out.1, H5.out.2⟩ (fun hHeld => ?_)
  refine wpAnyH_take (i := 0) (oi := _) (v := ?_) rfl (by kernel_rfl) (by kernel_rfl) (by kernel_rfl) (fun _ _ _ h => h) (Or.inl ⟨by rfl, ?_⟩) (by assumption) ?_
  rotate_left
  · (intro W hSw; (refine Sha.yields_row TSm (.tmp 10) ?_ G ?_ TSm C (0, 0) _ hSw.2 Tryd.underlying55 rfl (i32 C HC.out.1)); rfl; rfl)
  try simp only [Act.put, List.getElem_toArray, List.getElem_cons_zero, List.setIfInBounds_toArray, List.set_cons_zero, List.set_cons_succ]
  refine wpAnyH_take (i := 1) (oi := _) (v := ?_) rfl (by kernel_rfl) (by kernel_rfl) (by kernel_rfl) (fun _ _ _ h => h) (Or.inl ⟨by rfl, ?_⟩) (by assumption) ?_
  rotate_left
  · (intro W hSw; obtain ⟨h0, h1, h2, h3, h4, hf0⟩ := hSw.1.1.2.1.cells; go_simp; try with_reducible rfl)
  try simp only [Act.put, List.getElem_toArray, List.getElem_cons_succ, List.getElem_cons_zero, List.setIfInBounds_toArray, List.set_cons_zero, List.set_cons_succ]
  refine wpAnyH_ready (rs := [2]) (by kernel_rfl) (by simp) ?_
  refine AllReadyH.cons rfl (fun K hK => ?_) AllReadyH.nil
  simp only [List.getElem_toArray, List.getElem_cons_succ, List.getElem_cons_zero]
  rw [if_pos (by rfl)]
  go_simp
  (refine (HS.out _ (Sha.tab_below HT.out hHeld.1.1.1)).mono ?_; rintro e w6 ⟨rfl, hb6⟩)
  go_wp2_with fail
  refine hK.out _ _ ⟨PO.call hHeld.1 hb6, (hb6.block _ (lt_of hHeld.2)).trans hHeld.2⟩ (fun hHeld => ?_)
  clear hK K
  try simp only [Act.put, List.getElem_toArray, List.getElem_cons_succ, List.getElem_cons_zero, List.setIfInBounds_toArray, List.set_cons_zero, List.set_cons_succ]
  have hneq := HNe.out
  refine wpAnyH_take (i := 3) (oi := _) (v := ?_) rfl (by kernel_rfl) (by kernel_rfl) (by kernel_rfl) (fun _ _ _ h => h) (Or.inl ⟨by rfl, ?_⟩) (by assumption) ?_
  rotate_left
  · (intro W hSw; obtain ⟨h0, h1, h2, h3, h4, hf0⟩ := hSw.1.1.2.1.cells; go_simp; try with_reducible rfl)
  try simp only [Act.put, List.getElem_toArray, List.getElem_cons_succ, List.getElem_cons_zero, List.setIfInBounds_toArray, List.set_cons_zero, List.set_cons_succ]
  refine wpAnyH_take (i := 4) (oi := _) (v := ?_) rfl (by kernel_rfl) (by kernel_rfl) (by kernel_rfl) (fun _ _ _ h => h) (Or.inl ⟨by rfl, ?_⟩) (by assumption) ?_
  rotate_left
  · (intro W hSw; obtain ⟨h0, h1, h2, h3, h4, hf0⟩ := hSw.1.1.2.1.cells; go_simp; try with_reducible rfl)
  try simp only [Act.put, List.getElem_toArray, List.getElem_cons_succ, List.getElem_cons_zero, List.setIfInBounds_toArray, List.set_cons_zero, List.set_cons_succ]
  refine wpAnyH_done (by kernel_rfl) ?_ _
  have H6 := Lib.hid hHeld.1
  clear hHeld hneq hb6 H5
  go_wp2
  go_ret2
  exact ⟨rfl, H6.out.1.1⟩
set_option maxRecDepth 20000 in
set_option maxHeartbeats 4000000 in
theorem recv_order {w : World} {E M N E2 M2 N2 : Nat} {s s2 : St} (p : P5) (h x : Int) (hT : Sha.Tab w) (hL : LG w E M N s) (hO : LG w E2 M2 N2 s2) (hx : IntKind.i64.wrap (1 - s.sd) = x) (hfb : fitG s p x = true) (hcl : s.cl = false) (hr : (lk p.s s.ac).isSome = false) (hlt : lateB p h = false) (hk : (lk p.s s2.cm).isSome = true) (hp : p.ok) (hC2 : sumOf p.s s2.cm = sumP p) (hor : s.o = true) (hne2 : (p.s != s.rc) = true) :
    Calls Tryd.prog 9 #[.pointer (some ⟨E, 0, none⟩), pkv p, .int .u64 h, .pointer (some ⟨E2, 0, none⟩)] w fun e w' => e = .returned (.tuple #[.string ⟨#[]⟩, .int .i64 19]) ∧ Below w.heap.size w w' := by
  have HX := Lib.hid (And.intro hor hne2)
  clear hor hne2
  have HRc := Lib.hid (fun W (hW : LG W E M N s) => hr ▸ received_g p.s hW)
  clear hr
  have HLt := Lib.hid (fun W => hlt ▸ late_g p h W)
  clear hlt
  obtain ⟨b, hb, hne⟩ := neq_sum (sumOf p.s s2.cm) (sumP p) (sumOf_ok hO.cok) (sumP_ok p)
  have hbv : b = true := hb.2 hC2
  rw [hbv] at hne
  have hS := sum_g p ((fitG_iff s p x).1 hfb).1 hp
  have hlk := fun W (hW : LG W E2 M2 N2 s2) => look_g p.s M2 s2.cm W hW.com
  have hC := sumOf_ok (k := p.s) hO.cok
  simp only [hk] at hlk
  generalize sumOf p.s s2.cm = C at *
  generalize sumP p = D at *
  have HNe := Lib.hid hne
  have HS := Lib.hid hS
  clear hne hS hp hb hbv hC2
  have HLk := Lib.hid hlk
  have HC := Lib.hid hC
  clear hlk hC
  have HF := Lib.hid (fun W (hW : LG W E M N s) => hfb ▸ fits_g p x hW)
  have H0 := Lib.hid (PO.new (p := p) hL hO)
  have HEl := Lib.hid (And.intro hL.lt (And.intro hL.en (And.intro hL.mn (And.intro hL.cok hL.aok))))
  have HT := Lib.hid hT
  have HL0 := Lib.hid hL
  clear hfb hL hO hT
  go_enter Tryd.func9, Tryd.ntmps9
  go_upto_region 1 with fail
  refine wp_region_held_drew (S := PO w p E M N s E2 M2 N2 s2) (by kernel_rfl) (PO.drew H0.out) (fun hHeld => ?_)
  refine wpAnyH_take (i := 0) (oi := _) (v := ?_) rfl (by kernel_rfl) (by kernel_rfl) (by kernel_rfl) (fun _ _ _ h => h) (Or.inl ⟨by rfl, ?_⟩) (by assumption) ?_
  rotate_left
  · (intro W hSw; obtain ⟨h0, h1, h2, h3, h4, hf0⟩ := hSw.1.2.1.cells; obtain ⟨e0, e1, e2, e3, e4, e5, e6, e7, e8, hf1⟩ := hSw.1.2.2.cells; go_simp; try with_reducible rfl)
  try simp only [Act.put, List.getElem_toArray, List.getElem_cons_zero, List.setIfInBounds_toArray, List.set_cons_zero, List.set_cons_succ]
  refine wpAnyH_ready (rs := [1]) (by kernel_rfl) (by simp) ?_
  refine AllReadyH.cons rfl (fun K hK => ?_) AllReadyH.nil
  simp only [List.getElem_toArray, List.getElem_cons_succ, List.getElem_cons_zero]
  rw [if_pos (by rfl)]
  go_simp
  (refine (made_g hHeld.1.2.2).mono ?_; rintro e w1 ⟨rfl, hw⟩; obtain rfl := hw.symm; clear hw)
  go_wp2_with fail
  refine hK.out _ _ hHeld (fun hHeld => ?_)
  clear hK K
  try simp only [Act.put, List.getElem_toArray, List.getElem_cons_succ, List.getElem_cons_zero, List.setIfInBounds_toArray, List.set_cons_zero, List.set_cons_succ]
  refine wpAnyH_take (i := 2) (oi := _) (v := ?_) rfl (by kernel_rfl) (by kernel_rfl) (by kernel_rfl) (fun _ _ _ h => h) (Or.inl ⟨by rfl, ?_⟩) (by assumption) ?_
  rotate_left
  · (intro W hSw; obtain ⟨h0, h1, h2, h3, h4, hf0⟩ := hSw.1.2.1.cells; obtain ⟨e0, e1, e2, e3, e4, e5, e6, e7, e8, hf1⟩ := hSw.1.2.2.cells; go_simp; try with_reducible rfl)
  try simp only [Act.put, List.getElem_toArray, List.getElem_cons_succ, List.getElem_cons_zero, List.setIfInBounds_toArray, List.set_cons_zero, List.set_cons_succ]
  refine wpAnyH_take (i := 3) (oi := _) (v := ?_) rfl (by kernel_rfl) (by kernel_rfl) (by kernel_rfl) (fun _ _ _ h => h) (Or.inl ⟨by rfl, ?_⟩) (by assumption) ?_
  rotate_left
  · (intro W hSw; obtain ⟨h0, h1, h2, h3, h4, hf0⟩ := hSw.1.2.1.cells; obtain ⟨e0, e1, e2, e3, e4, e5, e6, e7, e8, hf1⟩ := hSw.1.2.2.cells; go_simp; try with_reducible rfl)
  try simp only [Act.put, List.getElem_toArray, List.getElem_cons_succ, List.getElem_cons_zero, List.setIfInBounds_toArray, List.set_cons_zero, List.set_cons_succ]
  refine wpAnyH_take (i := 4) (oi := _) (v := ?_) rfl (by kernel_rfl) (by kernel_rfl) (by kernel_rfl) (fun _ _ _ h => h) (Or.inl ⟨by rfl, ?_⟩) (by assumption) ?_
  rotate_left
  · (intro W hSw; obtain ⟨h0, h1, h2, h3, h4, hf0⟩ := hSw.1.2.1.cells; obtain ⟨e0, e1, e2, e3, e4, e5, e6, e7, e8, hf1⟩ := hSw.1.2.2.cells; go_simp; try with_reducible rfl)
  try simp only [Act.put, List.getElem_toArray, List.getElem_cons_succ, List.getElem_cons_zero, List.setIfInBounds_toArray, List.set_cons_zero, List.set_cons_succ]
  refine wpAnyH_ready (rs := [5]) (by kernel_rfl) (by simp) ?_
  refine AllReadyH.cons rfl (fun K hK => ?_) AllReadyH.nil
  simp only [List.getElem_toArray, List.getElem_cons_succ, List.getElem_cons_zero]
  rw [if_pos (by rfl)]
  go_simp
  (refine (made_g hHeld.2).mono ?_; rintro e w1 ⟨rfl, hw⟩; obtain rfl := hw.symm; clear hw)
  go_wp2_with fail
  refine hK.out _ _ hHeld (fun hHeld => ?_)
  clear hK K
  try simp only [Act.put, List.getElem_toArray, List.getElem_cons_succ, List.getElem_cons_zero, List.setIfInBounds_toArray, List.set_cons_zero, List.set_cons_succ]
  refine wpAnyH_take (i := 6) (oi := _) (v := ?_) rfl (by kernel_rfl) (by kernel_rfl) (by kernel_rfl) (fun _ _ _ h => h) (Or.inl ⟨by rfl, ?_⟩) (by assumption) ?_
  rotate_left
  · (intro W hSw; obtain ⟨h0, h1, h2, h3, h4, hf0⟩ := hSw.1.2.1.cells; obtain ⟨e0, e1, e2, e3, e4, e5, e6, e7, e8, hf1⟩ := hSw.1.2.2.cells; go_simp; try with_reducible rfl)
  try simp only [Act.put, List.getElem_toArray, List.getElem_cons_succ, List.getElem_cons_zero, List.setIfInBounds_toArray, List.set_cons_zero, List.set_cons_succ]
  refine wpAnyH_take (i := 7) (oi := _) (v := ?_) rfl (by kernel_rfl) (by kernel_rfl) (by kernel_rfl) (fun _ _ _ h => h) (Or.inl ⟨by rfl, ?_⟩) (by assumption) ?_
  rotate_left
  · (intro W hSw; obtain ⟨h0, h1, h2, h3, h4, hf0⟩ := hSw.1.2.1.cells; obtain ⟨e0, e1, e2, e3, e4, e5, e6, e7, e8, hf1⟩ := hSw.1.2.2.cells; go_simp; try with_reducible rfl)
  try simp only [Act.put, List.getElem_toArray, List.getElem_cons_succ, List.getElem_cons_zero, List.setIfInBounds_toArray, List.set_cons_zero, List.set_cons_succ]
  refine wpAnyH_take (i := 8) (oi := _) (v := ?_) rfl (by kernel_rfl) (by kernel_rfl) (by kernel_rfl) (fun _ _ _ h => h) (Or.inl ⟨by rfl, ?_⟩) (by assumption) ?_
  rotate_left
  · (intro W hSw; obtain ⟨h0, h1, h2, h3, h4, hf0⟩ := hSw.1.2.1.cells; obtain ⟨e0, e1, e2, e3, e4, e5, e6, e7, e8, hf1⟩ := hSw.1.2.2.cells; go_simp; try with_reducible rfl)
  try simp only [Act.put, List.getElem_toArray, List.getElem_cons_succ, List.getElem_cons_zero, List.setIfInBounds_toArray, List.set_cons_zero, List.set_cons_succ]
  refine wpAnyH_take (i := 9) (oi := _) (v := ?_) rfl (by kernel_rfl) (by kernel_rfl) (by kernel_rfl) (fun _ _ _ h => h) (Or.inl ⟨by rfl, ?_⟩) (by assumption) ?_
  rotate_left
  · (intro W hSw; obtain ⟨h0, h1, h2, h3, h4, hf0⟩ := hSw.1.2.1.cells; obtain ⟨e0, e1, e2, e3, e4, e5, e6, e7, e8, hf1⟩ := hSw.1.2.2.cells; go_simp; try with_reducible rfl)
  try simp only [Act.put, List.getElem_toArray, List.getElem_cons_succ, List.getElem_cons_zero, List.setIfInBounds_toArray, List.set_cons_zero, List.set_cons_succ]
  refine wpAnyH_take (i := 10) (oi := _) (v := ?_) rfl (by kernel_rfl) (by kernel_rfl) (by kernel_rfl) (fun _ _ _ h => h) (Or.inl ⟨by rfl, ?_⟩) (by assumption) ?_
  rotate_left
  · (intro W hSw; obtain ⟨h0, h1, h2, h3, h4, hf0⟩ := hSw.1.2.1.cells; obtain ⟨e0, e1, e2, e3, e4, e5, e6, e7, e8, hf1⟩ := hSw.1.2.2.cells; go_simp; try with_reducible rfl)
  try simp only [Act.put, List.getElem_toArray, List.getElem_cons_succ, List.getElem_cons_zero, List.setIfInBounds_toArray, List.set_cons_zero, List.set_cons_succ]
  refine wpAnyH_take (i := 11) (oi := _) (v := ?_) rfl (by kernel_rfl) (by kernel_rfl) (by kernel_rfl) (fun _ _ _ h => h) (Or.inl ⟨by rfl, ?_⟩) (by assumption) ?_
  rotate_left
  · (intro W hSw; obtain ⟨h0, h1, h2, h3, h4, hf0⟩ := hSw.1.2.1.cells; obtain ⟨e0, e1, e2, e3, e4, e5, e6, e7, e8, hf1⟩ := hSw.1.2.2.cells; go_simp; try with_reducible rfl)
  try simp only [Act.put, List.getElem_toArray, List.getElem_cons_succ, List.getElem_cons_zero, List.setIfInBounds_toArray, List.set_cons_zero, List.set_cons_succ]
  refine wpAnyH_take (i := 12) (oi := _) (v := ?_) rfl (by kernel_rfl) (by kernel_rfl) (by kernel_rfl) (fun _ _ _ h => h) (Or.inl ⟨by rfl, ?_⟩) (by assumption) ?_
  rotate_left
  · (intro W hSw; obtain ⟨h0, h1, h2, h3, h4, hf0⟩ := hSw.1.2.1.cells; obtain ⟨e0, e1, e2, e3, e4, e5, e6, e7, e8, hf1⟩ := hSw.1.2.2.cells; go_simp; try with_reducible rfl)
  try simp only [Act.put, List.getElem_toArray, List.getElem_cons_succ, List.getElem_cons_zero, List.setIfInBounds_toArray, List.set_cons_zero, List.set_cons_succ]
  refine wpAnyH_take (i := 13) (oi := _) (v := ?_) rfl (by kernel_rfl) (by kernel_rfl) (by kernel_rfl) (fun _ _ _ h => h) (Or.inl ⟨by rfl, ?_⟩) (by assumption) ?_
  rotate_left
  · (intro W hSw; obtain ⟨h0, h1, h2, h3, h4, hf0⟩ := hSw.1.2.1.cells; obtain ⟨e0, e1, e2, e3, e4, e5, e6, e7, e8, hf1⟩ := hSw.1.2.2.cells; go_simp; try with_reducible rfl)
  try simp only [Act.put, List.getElem_toArray, List.getElem_cons_succ, List.getElem_cons_zero, List.setIfInBounds_toArray, List.set_cons_zero, List.set_cons_succ]
  refine wpAnyH_take (i := 14) (oi := _) (v := ?_) rfl (by kernel_rfl) (by kernel_rfl) (by kernel_rfl) (fun _ _ _ h => h) (Or.inl ⟨by rfl, ?_⟩) (by assumption) ?_
  rotate_left
  · (intro W hSw; obtain ⟨h0, h1, h2, h3, h4, hf0⟩ := hSw.1.2.1.cells; obtain ⟨e0, e1, e2, e3, e4, e5, e6, e7, e8, hf1⟩ := hSw.1.2.2.cells; go_simp; try with_reducible rfl)
  try simp only [Act.put, List.getElem_toArray, List.getElem_cons_succ, List.getElem_cons_zero, List.setIfInBounds_toArray, List.set_cons_zero, List.set_cons_succ]
  refine wpAnyH_take (i := 15) (oi := _) (v := ?_) rfl (by kernel_rfl) (by kernel_rfl) (by kernel_rfl) (fun _ _ _ h => h) (Or.inl ⟨by rfl, ?_⟩) (by assumption) ?_
  rotate_left
  · (intro W hSw; obtain ⟨h0, h1, h2, h3, h4, hf0⟩ := hSw.1.2.1.cells; obtain ⟨e0, e1, e2, e3, e4, e5, e6, e7, e8, hf1⟩ := hSw.1.2.2.cells; go_simp; try with_reducible rfl)
  try simp only [Act.put, List.getElem_toArray, List.getElem_cons_succ, List.getElem_cons_zero, List.setIfInBounds_toArray, List.set_cons_zero, List.set_cons_succ]
  refine wpAnyH_ready (rs := [16]) (by kernel_rfl) (by simp) ?_
  refine AllReadyH.cons rfl (fun K hK => ?_) AllReadyH.nil
  simp only [List.getElem_toArray, List.getElem_cons_succ, List.getElem_cons_zero]
  rw [if_pos (by rfl)]
  go_simp
  (refine (HF.out _ hHeld.1.2.2).mono ?_; rintro e w1 ⟨rfl, hb1⟩)
  go_wp2_with fail
  refine hK.out _ _ (PO.call hHeld hb1) (fun hHeld => ?_)
  clear hK K
  try simp only [Act.put, List.getElem_toArray, List.getElem_cons_succ, List.getElem_cons_zero, List.setIfInBounds_toArray, List.set_cons_zero, List.set_cons_succ]
  refine wpAnyH_take (i := 17) (oi := _) (v := ?_) rfl (by kernel_rfl) (by kernel_rfl) (by kernel_rfl) (fun _ _ _ h => h) (Or.inl ⟨by rfl, ?_⟩) (by assumption) ?_
  rotate_left
  · (intro W hSw; obtain ⟨h0, h1, h2, h3, h4, hf0⟩ := hSw.1.2.1.cells; obtain ⟨e0, e1, e2, e3, e4, e5, e6, e7, e8, hf1⟩ := hSw.1.2.2.cells; go_simp; try with_reducible rfl)
  try simp only [Act.put, List.getElem_toArray, List.getElem_cons_succ, List.getElem_cons_zero, List.setIfInBounds_toArray, List.set_cons_zero, List.set_cons_succ]
  refine wpAnyH_take (i := 18) (oi := _) (v := ?_) rfl (by kernel_rfl) (by kernel_rfl) (by kernel_rfl) (fun _ _ _ h => h) (Or.inl ⟨by rfl, ?_⟩) (by assumption) ?_
  rotate_left
  · (intro W hSw; obtain ⟨h0, h1, h2, h3, h4, hf0⟩ := hSw.1.2.1.cells; obtain ⟨e0, e1, e2, e3, e4, e5, e6, e7, e8, hf1⟩ := hSw.1.2.2.cells; go_simp; try with_reducible rfl)
  try simp only [Act.put, List.getElem_toArray, List.getElem_cons_succ, List.getElem_cons_zero, List.setIfInBounds_toArray, List.set_cons_zero, List.set_cons_succ]
  refine wpAnyH_done (by kernel_rfl) ?_ _
  have H1 := Lib.hid hHeld
  clear hHeld H0 hb1
  go_upto_region 3 with fail
  refine wp_region_held_drew (S := PO w p E M N s E2 M2 N2 s2) (by kernel_rfl) (PO.drew H1.out) (fun hHeld => ?_)
  refine wpAnyH_take (i := 0) (oi := _) (v := ?_) rfl (by kernel_rfl) (by kernel_rfl) (by kernel_rfl) (fun _ _ _ h => h) (Or.inl ⟨by rfl, ?_⟩) (by assumption) ?_
  rotate_left
  · (intro W hSw; obtain ⟨h0, h1, h2, h3, h4, hf0⟩ := hSw.1.2.1.cells; obtain ⟨e0, e1, e2, e3, e4, e5, e6, e7, e8, hf1⟩ := hSw.2.cells; have hlk := HLk.out _ hSw.2; go_simp; try with_reducible rfl)
  try simp only [Act.put, List.getElem_toArray, List.getElem_cons_zero, List.setIfInBounds_toArray, List.set_cons_zero, List.set_cons_succ]
  refine wpAnyH_take (i := 1) (oi := _) (v := ?_) rfl (by kernel_rfl) (by kernel_rfl) (by kernel_rfl) (fun _ _ _ h => h) (Or.inl ⟨by rfl, ?_⟩) (by assumption) ?_
  rotate_left
  · (intro W hSw; obtain ⟨h0, h1, h2, h3, h4, hf0⟩ := hSw.1.2.1.cells; obtain ⟨e0, e1, e2, e3, e4, e5, e6, e7, e8, hf1⟩ := hSw.2.cells; have hlk := HLk.out _ hSw.2; go_simp; try with_reducible rfl)
  try simp only [Act.put, List.getElem_toArray, List.getElem_cons_succ, List.getElem_cons_zero, List.setIfInBounds_toArray, List.set_cons_zero, List.set_cons_succ]
  refine wpAnyH_take (i := 2) (oi := _) (v := ?_) rfl (by kernel_rfl) (by kernel_rfl) (by kernel_rfl) (fun _ _ _ h => h) (Or.inl ⟨by rfl, ?_⟩) (by assumption) ?_
  rotate_left
  · (intro W hSw; obtain ⟨h0, h1, h2, h3, h4, hf0⟩ := hSw.1.2.1.cells; obtain ⟨e0, e1, e2, e3, e4, e5, e6, e7, e8, hf1⟩ := hSw.2.cells; have hlk := HLk.out _ hSw.2; go_simp; try with_reducible rfl)
  try simp only [Act.put, List.getElem_toArray, List.getElem_cons_succ, List.getElem_cons_zero, List.setIfInBounds_toArray, List.set_cons_zero, List.set_cons_succ]
  refine wpAnyH_take (i := 3) (oi := _) (v := ?_) rfl (by kernel_rfl) (by kernel_rfl) (by kernel_rfl) (fun _ _ _ h => h) (Or.inl ⟨by rfl, ?_⟩) (by assumption) ?_
  rotate_left
  · (intro W hSw; obtain ⟨h0, h1, h2, h3, h4, hf0⟩ := hSw.1.2.1.cells; obtain ⟨e0, e1, e2, e3, e4, e5, e6, e7, e8, hf1⟩ := hSw.2.cells; have hlk := HLk.out _ hSw.2; go_simp; try with_reducible rfl)
  try simp only [Act.put, List.getElem_toArray, List.getElem_cons_succ, List.getElem_cons_zero, List.setIfInBounds_toArray, List.set_cons_zero, List.set_cons_succ]
  refine wpAnyH_take (i := 4) (oi := _) (v := ?_) rfl (by kernel_rfl) (by kernel_rfl) (by kernel_rfl) (fun _ _ _ h => h) (Or.inl ⟨by rfl, ?_⟩) (by assumption) ?_
  rotate_left
  · (intro W hSw; obtain ⟨h0, h1, h2, h3, h4, hf0⟩ := hSw.1.2.1.cells; obtain ⟨e0, e1, e2, e3, e4, e5, e6, e7, e8, hf1⟩ := hSw.2.cells; have hlk := HLk.out _ hSw.2; go_simp; try with_reducible rfl)
  try simp only [Act.put, List.getElem_toArray, List.getElem_cons_succ, List.getElem_cons_zero, List.setIfInBounds_toArray, List.set_cons_zero, List.set_cons_succ]
  refine wpAnyH_take (i := 5) (oi := _) (v := ?_) rfl (by kernel_rfl) (by kernel_rfl) (by kernel_rfl) (fun _ _ _ h => h) (Or.inl ⟨by rfl, ?_⟩) (by assumption) ?_
  rotate_left
  · (intro W hSw; obtain ⟨h0, h1, h2, h3, h4, hf0⟩ := hSw.1.2.1.cells; obtain ⟨e0, e1, e2, e3, e4, e5, e6, e7, e8, hf1⟩ := hSw.2.cells; have hlk := HLk.out _ hSw.2; go_simp; try with_reducible rfl)
  try simp only [Act.put, List.getElem_toArray, List.getElem_cons_succ, List.getElem_cons_zero, List.setIfInBounds_toArray, List.set_cons_zero, List.set_cons_succ]
  refine wpAnyH_take (i := 6) (oi := _) (v := ?_) rfl (by kernel_rfl) (by kernel_rfl) (by kernel_rfl) (fun _ _ _ h => h) (Or.inl ⟨by rfl, ?_⟩) (by assumption) ?_
  rotate_left
  · (intro W hSw; obtain ⟨h0, h1, h2, h3, h4, hf0⟩ := hSw.1.2.1.cells; obtain ⟨e0, e1, e2, e3, e4, e5, e6, e7, e8, hf1⟩ := hSw.2.cells; have hlk := HLk.out _ hSw.2; go_simp; try with_reducible rfl)
  try simp only [Act.put, List.getElem_toArray, List.getElem_cons_succ, List.getElem_cons_zero, List.setIfInBounds_toArray, List.set_cons_zero, List.set_cons_succ]
  refine wpAnyH_take (i := 7) (oi := _) (v := ?_) rfl (by kernel_rfl) (by kernel_rfl) (by kernel_rfl) (fun _ _ _ h => h) (Or.inl ⟨by rfl, ?_⟩) (by assumption) ?_
  rotate_left
  · (intro W hSw; obtain ⟨h0, h1, h2, h3, h4, hf0⟩ := hSw.1.2.1.cells; obtain ⟨e0, e1, e2, e3, e4, e5, e6, e7, e8, hf1⟩ := hSw.2.cells; have hlk := HLk.out _ hSw.2; go_simp; try with_reducible rfl)
  try simp only [Act.put, List.getElem_toArray, List.getElem_cons_succ, List.getElem_cons_zero, List.setIfInBounds_toArray, List.set_cons_zero, List.set_cons_succ]
  refine wpAnyH_take (i := 8) (oi := _) (v := ?_) rfl (by kernel_rfl) (by kernel_rfl) (by kernel_rfl) (fun _ _ _ h => h) (Or.inl ⟨by rfl, ?_⟩) (by assumption) ?_
  rotate_left
  · (intro W hSw; obtain ⟨h0, h1, h2, h3, h4, hf0⟩ := hSw.1.2.1.cells; obtain ⟨e0, e1, e2, e3, e4, e5, e6, e7, e8, hf1⟩ := hSw.2.cells; have hlk := HLk.out _ hSw.2; go_simp; try with_reducible rfl)
  try simp only [Act.put, List.getElem_toArray, List.getElem_cons_succ, List.getElem_cons_zero, List.setIfInBounds_toArray, List.set_cons_zero, List.set_cons_succ]
  refine wpAnyH_take (i := 9) (oi := _) (v := ?_) rfl (by kernel_rfl) (by kernel_rfl) (by kernel_rfl) (fun _ _ _ h => h) (Or.inl ⟨by rfl, ?_⟩) (by assumption) ?_
  rotate_left
  · (intro W hSw; obtain ⟨h0, h1, h2, h3, h4, hf0⟩ := hSw.1.2.1.cells; obtain ⟨e0, e1, e2, e3, e4, e5, e6, e7, e8, hf1⟩ := hSw.2.cells; have hlk := HLk.out _ hSw.2; go_simp; try with_reducible rfl)
  try simp only [Act.put, List.getElem_toArray, List.getElem_cons_succ, List.getElem_cons_zero, List.setIfInBounds_toArray, List.set_cons_zero, List.set_cons_succ]
  refine wpAnyH_ready (rs := [10]) (by kernel_rfl) (by simp) ?_
  refine AllReadyH.cons rfl (fun K hK => ?_) AllReadyH.nil
  simp only [List.getElem_toArray, List.getElem_cons_succ, List.getElem_cons_zero]
  rw [if_pos (by rfl)]
  go_simp
  refine hK.out _ _ (PO.call hHeld ((Below.refl _ _).alloc (Nat.le_refl _) _)) (fun hHeld => ?_)
  clear hK K
  try simp only [Act.put, List.getElem_toArray, List.getElem_cons_succ, List.getElem_cons_zero, List.setIfInBounds_toArray, List.set_cons_zero, List.set_cons_succ]
  have hst : (storeCells ⟨w1.heap.size, 0, none⟩ C.toList).run Tryd.prog (w1.alloc (.cells #[.int .u8 0, .int .u8 0, .int .u8 0, .int .u8 0, .int .u8 0, .int .u8 0, .int .u8 0, .int .u8 0, .int .u8 0, .int .u8 0, .int .u8 0, .int .u8 0, .int .u8 0, .int .u8 0, .int .u8 0, .int .u8 0, .int .u8 0, .int .u8 0, .int .u8 0, .int .u8 0, .int .u8 0, .int .u8 0, .int .u8 0, .int .u8 0, .int .u8 0, .int .u8 0, .int .u8 0, .int .u8 0, .int .u8 0, .int .u8 0, .int .u8 0, .int .u8 0] TSm)).drew = .ok () (w1.alloc (.cells C TSm)).drew := run_storeCells_new (P := Tryd.prog) w1.drew TSm #[.int .u8 0, .int .u8 0, .int .u8 0, .int .u8 0, .int .u8 0, .int .u8 0, .int .u8 0, .int .u8 0, .int .u8 0, .int .u8 0, .int .u8 0, .int .u8 0, .int .u8 0, .int .u8 0, .int .u8 0, .int .u8 0, .int .u8 0, .int .u8 0, .int .u8 0, .int .u8 0, .int .u8 0, .int .u8 0, .int .u8 0, .int .u8 0, .int .u8 0, .int .u8 0, .int .u8 0, .int .u8 0, .int .u8 0, .int .u8 0, .int .u8 0, .int .u8 0] C (i32 C HC.out.1) (by rw [HC.out.1]; rfl) HC.out.2.1
  have hCz := HC.out.1
  refine wpAnyH_ready (rs := [11]) (by kernel_rfl) (by simp) ?_
  refine AllReadyH.cons rfl (fun K hK => ?_) AllReadyH.nil
  simp only [List.getElem_toArray, List.getElem_cons_succ, List.getElem_cons_zero]
  rw [if_pos (by rfl)]
  go_simp
  refine hK.out _ _ (PO.call (PO.drew H1.out) ((Below.refl _ _).alloc (Nat.le_refl _) _)) (fun hHeld => ?_)
  clear hK K
  try simp only [Act.put, List.getElem_toArray, List.getElem_cons_succ, List.getElem_cons_zero, List.setIfInBounds_toArray, List.set_cons_zero, List.set_cons_succ]
  refine wpAnyH_take (i := 12) (oi := _) (v := ?_) rfl (by kernel_rfl) (by kernel_rfl) (by kernel_rfl) (fun _ _ _ h => h) (Or.inl ⟨by rfl, ?_⟩) (by assumption) ?_
  rotate_left
  · (intro W hSw; obtain ⟨h0, h1, h2, h3, h4, hf0⟩ := hSw.1.2.1.cells; obtain ⟨e0, e1, e2, e3, e4, e5, e6, e7, e8, hf1⟩ := hSw.2.cells; have hlk := HLk.out _ hSw.2; go_simp; try with_reducible rfl)
  try simp only [Act.put, List.getElem_toArray, List.getElem_cons_succ, List.getElem_cons_zero, List.setIfInBounds_toArray, List.set_cons_zero, List.set_cons_succ]
  refine wpAnyH_done (by kernel_rfl) ?_ _
  have H3 : Hid (PO w p E M N s E2 M2 N2 s2 ((w1.alloc (.cells C TSm)).drew) ∧ (w1.alloc (.cells C TSm)).drew.heap[w1.heap.size]? = some (.cells C TSm (0, 0))) := Lib.hid ⟨hHeld, heap_alloc_new w1.drew _⟩
  obtain ⟨w3, hw3⟩ : ∃ X, X = (w1.alloc (.cells C TSm)).drew := ⟨_, rfl⟩
  obtain ⟨G, hG⟩ : ∃ X, X = w1.heap.size := ⟨_, rfl⟩
  rw [← hw3] at H3 ⊢
  rw [← hG] at H3 ⊢
  clear hw3 hG hst hHeld H1
  obtain ⟨h0, h1, h2, h3, h4, hf0⟩ := H3.out.1.1.2.1.cells
  obtain ⟨e0, e1, e2, e3, e4, e5, e6, e7, e8, hf1⟩ := H3.out.1.1.2.2.cells
  go_wp2_with fail
  refine (HRc.out _ H3.out.1.1.2.2).mono ?_
  rintro _ w4 ⟨rfl, b4⟩
  have H4 : Hid (PO w p E M N s E2 M2 N2 s2 w4 ∧ w4.heap[G]? = some (.cells C TSm (0, 0))) := Lib.hid ⟨PO.call H3.out.1 b4, (b4.block _ (lt_of H3.out.2)).trans H3.out.2⟩
  clear h0 h1 h2 h3 h4 hf0 e0 e1 e2 e3 e4 e5 e6 e7 e8 hf1 b4 H3
  obtain ⟨h0, h1, h2, h3, h4, hf0⟩ := H4.out.1.1.2.1.cells
  obtain ⟨e0, e1, e2, e3, e4, e5, e6, e7, e8, hf1⟩ := H4.out.1.1.2.2.cells
  go_wp2_with fail
  refine (HLt.out _).mono ?_
  rintro _ w5 ⟨rfl, b5⟩
  have H5 : Hid (PO w p E M N s E2 M2 N2 s2 w5 ∧ w5.heap[G]? = some (.cells C TSm (0, 0))) := Lib.hid ⟨PO.call H4.out.1 b5, (b5.block _ (lt_of H4.out.2)).trans H4.out.2⟩
  clear h0 h1 h2 h3 h4 hf0 e0 e1 e2 e3 e4 e5 e6 e7 e8 hf1 b5 H4
  obtain ⟨h0, h1, h2, h3, h4, hf0⟩ := H5.out.1.1.2.1.cells
  obtain ⟨e0, e1, e2, e3, e4, e5, e6, e7, e8, hf1⟩ := H5.out.1.1.2.2.cells
  go_upto_region 8 with fail
  clear h0 h1 h2 h3 h4 hf0 e0 e1 e2 e3 e4 e5 e6 e7 e8 hf1
  refine wp_region_held_drew (S := fun W => PO w p E M N s E2 M2 N2 s2 W ∧ W.heap[G]? = some (.cells C TSm (0, 0))) (by kernel_rfl) ⟨PO.drew H5.out.1, H5.out.2⟩ (fun hHeld => ?_)
  refine wpAnyH_take (i := 0) (oi := _) (v := ?_) rfl (by kernel_rfl) (by kernel_rfl) (by kernel_rfl) (fun _ _ _ h => h) (Or.inl ⟨by rfl, ?_⟩) (by assumption) ?_
  rotate_left
  · (intro W hSw; (refine Sha.yields_row TSm (.tmp 10) ?_ G ?_ TSm C (0, 0) _ hSw.2 Tryd.underlying55 rfl (i32 C HC.out.1)); rfl; rfl)
  try simp only [Act.put, List.getElem_toArray, List.getElem_cons_zero, List.setIfInBounds_toArray, List.set_cons_zero, List.set_cons_succ]
  refine wpAnyH_take (i := 1) (oi := _) (v := ?_) rfl (by kernel_rfl) (by kernel_rfl) (by kernel_rfl) (fun _ _ _ h => h) (Or.inl ⟨by rfl, ?_⟩) (by assumption) ?_
  rotate_left
  · (intro W hSw; obtain ⟨h0, h1, h2, h3, h4, hf0⟩ := hSw.1.1.2.1.cells; go_simp; try with_reducible rfl)
  try simp only [Act.put, List.getElem_toArray, List.getElem_cons_succ, List.getElem_cons_zero, List.setIfInBounds_toArray, List.set_cons_zero, List.set_cons_succ]
  refine wpAnyH_ready (rs := [2]) (by kernel_rfl) (by simp) ?_
  refine AllReadyH.cons rfl (fun K hK => ?_) AllReadyH.nil
  simp only [List.getElem_toArray, List.getElem_cons_succ, List.getElem_cons_zero]
  rw [if_pos (by rfl)]
  go_simp
  (refine (HS.out _ (Sha.tab_below HT.out hHeld.1.1.1)).mono ?_; rintro e w6 ⟨rfl, hb6⟩)
  go_wp2_with fail
  refine hK.out _ _ ⟨PO.call hHeld.1 hb6, (hb6.block _ (lt_of hHeld.2)).trans hHeld.2⟩ (fun hHeld => ?_)
  clear hK K
  try simp only [Act.put, List.getElem_toArray, List.getElem_cons_succ, List.getElem_cons_zero, List.setIfInBounds_toArray, List.set_cons_zero, List.set_cons_succ]
  have hneq := HNe.out
  refine wpAnyH_take (i := 3) (oi := _) (v := ?_) rfl (by kernel_rfl) (by kernel_rfl) (by kernel_rfl) (fun _ _ _ h => h) (Or.inl ⟨by rfl, ?_⟩) (by assumption) ?_
  rotate_left
  · (intro W hSw; obtain ⟨h0, h1, h2, h3, h4, hf0⟩ := hSw.1.1.2.1.cells; go_simp; try with_reducible rfl)
  try simp only [Act.put, List.getElem_toArray, List.getElem_cons_succ, List.getElem_cons_zero, List.setIfInBounds_toArray, List.set_cons_zero, List.set_cons_succ]
  refine wpAnyH_take (i := 4) (oi := _) (v := ?_) rfl (by kernel_rfl) (by kernel_rfl) (by kernel_rfl) (fun _ _ _ h => h) (Or.inl ⟨by rfl, ?_⟩) (by assumption) ?_
  rotate_left
  · (intro W hSw; obtain ⟨h0, h1, h2, h3, h4, hf0⟩ := hSw.1.1.2.1.cells; go_simp; try with_reducible rfl)
  try simp only [Act.put, List.getElem_toArray, List.getElem_cons_succ, List.getElem_cons_zero, List.setIfInBounds_toArray, List.set_cons_zero, List.set_cons_succ]
  refine wpAnyH_done (by kernel_rfl) ?_ _
  have H6 := Lib.hid hHeld.1
  clear hHeld hneq hb6 H5
  obtain ⟨hor, hne2⟩ := HX.out
  go_upto_region 9 with fail
  refine wp_region_held_drew (S := PO w p E M N s E2 M2 N2 s2) (by kernel_rfl) (PO.drew H6.out) (fun hHeld => ?_)
  refine wpAnyH_take (i := 0) (oi := _) (v := ?_) rfl (by kernel_rfl) (by kernel_rfl) (by kernel_rfl) (fun _ _ _ h => h) (Or.inl ⟨by rfl, ?_⟩) (by assumption) ?_
  rotate_left
  · (intro W hSw; obtain ⟨h0, h1, h2, h3, h4, hf0⟩ := hSw.1.2.1.cells; obtain ⟨e0, e1, e2, e3, e4, e5, e6, e7, e8, hf1⟩ := hSw.1.2.2.cells; go_simp; try with_reducible rfl)
  try simp only [Act.put, List.getElem_toArray, List.getElem_cons_zero, List.setIfInBounds_toArray, List.set_cons_zero, List.set_cons_succ]
  refine wpAnyH_take (i := 1) (oi := _) (v := ?_) rfl (by kernel_rfl) (by kernel_rfl) (by kernel_rfl) (fun _ _ _ h => h) (Or.inl ⟨by rfl, ?_⟩) (by assumption) ?_
  rotate_left
  · (intro W hSw; obtain ⟨h0, h1, h2, h3, h4, hf0⟩ := hSw.1.2.1.cells; obtain ⟨e0, e1, e2, e3, e4, e5, e6, e7, e8, hf1⟩ := hSw.1.2.2.cells; go_simp; try with_reducible rfl)
  try simp only [Act.put, List.getElem_toArray, List.getElem_cons_succ, List.getElem_cons_zero, List.setIfInBounds_toArray, List.set_cons_zero, List.set_cons_succ]
  refine wpAnyH_take (i := 2) (oi := _) (v := ?_) rfl (by kernel_rfl) (by kernel_rfl) (by kernel_rfl) (fun _ _ _ h => h) (Or.inl ⟨by rfl, ?_⟩) (by assumption) ?_
  rotate_left
  · (intro W hSw; obtain ⟨h0, h1, h2, h3, h4, hf0⟩ := hSw.1.2.1.cells; obtain ⟨e0, e1, e2, e3, e4, e5, e6, e7, e8, hf1⟩ := hSw.1.2.2.cells; go_simp; try with_reducible rfl)
  try simp only [Act.put, List.getElem_toArray, List.getElem_cons_succ, List.getElem_cons_zero, List.setIfInBounds_toArray, List.set_cons_zero, List.set_cons_succ]
  refine wpAnyH_take (i := 3) (oi := _) (v := ?_) rfl (by kernel_rfl) (by kernel_rfl) (by kernel_rfl) (fun _ _ _ h => h) (Or.inl ⟨by rfl, ?_⟩) (by assumption) ?_
  rotate_left
  · (intro W hSw; obtain ⟨h0, h1, h2, h3, h4, hf0⟩ := hSw.1.2.1.cells; obtain ⟨e0, e1, e2, e3, e4, e5, e6, e7, e8, hf1⟩ := hSw.1.2.2.cells; go_simp; try with_reducible rfl)
  try simp only [Act.put, List.getElem_toArray, List.getElem_cons_succ, List.getElem_cons_zero, List.setIfInBounds_toArray, List.set_cons_zero, List.set_cons_succ]
  refine wpAnyH_take (i := 4) (oi := _) (v := ?_) rfl (by kernel_rfl) (by kernel_rfl) (by kernel_rfl) (fun _ _ _ h => h) (Or.inl ⟨by rfl, ?_⟩) (by assumption) ?_
  rotate_left
  · (intro W hSw; obtain ⟨h0, h1, h2, h3, h4, hf0⟩ := hSw.1.2.1.cells; obtain ⟨e0, e1, e2, e3, e4, e5, e6, e7, e8, hf1⟩ := hSw.1.2.2.cells; go_simp; try with_reducible rfl)
  try simp only [Act.put, List.getElem_toArray, List.getElem_cons_succ, List.getElem_cons_zero, List.setIfInBounds_toArray, List.set_cons_zero, List.set_cons_succ]
  refine wpAnyH_take (i := 5) (oi := _) (v := ?_) rfl (by kernel_rfl) (by kernel_rfl) (by kernel_rfl) (fun _ _ _ h => h) (Or.inl ⟨by rfl, ?_⟩) (by assumption) ?_
  rotate_left
  · (intro W hSw; obtain ⟨h0, h1, h2, h3, h4, hf0⟩ := hSw.1.2.1.cells; obtain ⟨e0, e1, e2, e3, e4, e5, e6, e7, e8, hf1⟩ := hSw.1.2.2.cells; go_simp; try with_reducible rfl)
  try simp only [Act.put, List.getElem_toArray, List.getElem_cons_succ, List.getElem_cons_zero, List.setIfInBounds_toArray, List.set_cons_zero, List.set_cons_succ]
  refine wpAnyH_take (i := 6) (oi := _) (v := ?_) rfl (by kernel_rfl) (by kernel_rfl) (by kernel_rfl) (fun _ _ _ h => h) (Or.inl ⟨by rfl, ?_⟩) (by assumption) ?_
  rotate_left
  · (intro W hSw; obtain ⟨h0, h1, h2, h3, h4, hf0⟩ := hSw.1.2.1.cells; obtain ⟨e0, e1, e2, e3, e4, e5, e6, e7, e8, hf1⟩ := hSw.1.2.2.cells; go_simp; try with_reducible rfl)
  try simp only [Act.put, List.getElem_toArray, List.getElem_cons_succ, List.getElem_cons_zero, List.setIfInBounds_toArray, List.set_cons_zero, List.set_cons_succ]
  refine wpAnyH_take (i := 7) (oi := _) (v := ?_) rfl (by kernel_rfl) (by kernel_rfl) (by kernel_rfl) (fun _ _ _ h => h) (Or.inl ⟨by rfl, ?_⟩) (by assumption) ?_
  rotate_left
  · (intro W hSw; obtain ⟨h0, h1, h2, h3, h4, hf0⟩ := hSw.1.2.1.cells; obtain ⟨e0, e1, e2, e3, e4, e5, e6, e7, e8, hf1⟩ := hSw.1.2.2.cells; go_simp; try with_reducible rfl)
  try simp only [Act.put, List.getElem_toArray, List.getElem_cons_succ, List.getElem_cons_zero, List.setIfInBounds_toArray, List.set_cons_zero, List.set_cons_succ]
  refine wpAnyH_take (i := 8) (oi := _) (v := ?_) rfl (by kernel_rfl) (by kernel_rfl) (by kernel_rfl) (fun _ _ _ h => h) (Or.inl ⟨by rfl, ?_⟩) (by assumption) ?_
  rotate_left
  · (intro W hSw; obtain ⟨h0, h1, h2, h3, h4, hf0⟩ := hSw.1.2.1.cells; obtain ⟨e0, e1, e2, e3, e4, e5, e6, e7, e8, hf1⟩ := hSw.1.2.2.cells; go_simp; try with_reducible rfl)
  try simp only [Act.put, List.getElem_toArray, List.getElem_cons_succ, List.getElem_cons_zero, List.setIfInBounds_toArray, List.set_cons_zero, List.set_cons_succ]
  refine wpAnyH_take (i := 9) (oi := _) (v := ?_) rfl (by kernel_rfl) (by kernel_rfl) (by kernel_rfl) (fun _ _ _ h => h) (Or.inl ⟨by rfl, ?_⟩) (by assumption) ?_
  rotate_left
  · (intro W hSw; obtain ⟨h0, h1, h2, h3, h4, hf0⟩ := hSw.1.2.1.cells; obtain ⟨e0, e1, e2, e3, e4, e5, e6, e7, e8, hf1⟩ := hSw.1.2.2.cells; go_simp; try with_reducible rfl)
  try simp only [Act.put, List.getElem_toArray, List.getElem_cons_succ, List.getElem_cons_zero, List.setIfInBounds_toArray, List.set_cons_zero, List.set_cons_succ]
  refine wpAnyH_take (i := 10) (oi := _) (v := ?_) rfl (by kernel_rfl) (by kernel_rfl) (by kernel_rfl) (fun _ _ _ h => h) (Or.inl ⟨by rfl, ?_⟩) (by assumption) ?_
  rotate_left
  · (intro W hSw; obtain ⟨h0, h1, h2, h3, h4, hf0⟩ := hSw.1.2.1.cells; obtain ⟨e0, e1, e2, e3, e4, e5, e6, e7, e8, hf1⟩ := hSw.1.2.2.cells; go_simp; try with_reducible rfl)
  try simp only [Act.put, List.getElem_toArray, List.getElem_cons_succ, List.getElem_cons_zero, List.setIfInBounds_toArray, List.set_cons_zero, List.set_cons_succ]
  refine wpAnyH_take (i := 11) (oi := _) (v := ?_) rfl (by kernel_rfl) (by kernel_rfl) (by kernel_rfl) (fun _ _ _ h => h) (Or.inl ⟨by rfl, ?_⟩) (by assumption) ?_
  rotate_left
  · (intro W hSw; obtain ⟨h0, h1, h2, h3, h4, hf0⟩ := hSw.1.2.1.cells; obtain ⟨e0, e1, e2, e3, e4, e5, e6, e7, e8, hf1⟩ := hSw.1.2.2.cells; go_simp; try with_reducible rfl)
  try simp only [Act.put, List.getElem_toArray, List.getElem_cons_succ, List.getElem_cons_zero, List.setIfInBounds_toArray, List.set_cons_zero, List.set_cons_succ]
  refine wpAnyH_take (i := 12) (oi := _) (v := ?_) rfl (by kernel_rfl) (by kernel_rfl) (by kernel_rfl) (fun _ _ _ h => h) (Or.inl ⟨by rfl, ?_⟩) (by assumption) ?_
  rotate_left
  · (intro W hSw; obtain ⟨h0, h1, h2, h3, h4, hf0⟩ := hSw.1.2.1.cells; obtain ⟨e0, e1, e2, e3, e4, e5, e6, e7, e8, hf1⟩ := hSw.1.2.2.cells; go_simp; try with_reducible rfl)
  try simp only [Act.put, List.getElem_toArray, List.getElem_cons_succ, List.getElem_cons_zero, List.setIfInBounds_toArray, List.set_cons_zero, List.set_cons_succ]
  refine wpAnyH_take (i := 13) (oi := _) (v := ?_) rfl (by kernel_rfl) (by kernel_rfl) (by kernel_rfl) (fun _ _ _ h => h) (Or.inl ⟨by rfl, ?_⟩) (by assumption) ?_
  rotate_left
  · (intro W hSw; obtain ⟨h0, h1, h2, h3, h4, hf0⟩ := hSw.1.2.1.cells; obtain ⟨e0, e1, e2, e3, e4, e5, e6, e7, e8, hf1⟩ := hSw.1.2.2.cells; go_simp; try with_reducible rfl)
  try simp only [Act.put, List.getElem_toArray, List.getElem_cons_succ, List.getElem_cons_zero, List.setIfInBounds_toArray, List.set_cons_zero, List.set_cons_succ]
  refine wpAnyH_done (by kernel_rfl) ?_ _
  have H7 := Lib.hid (PO.drew H6.out)
  clear hHeld H6
  obtain ⟨w7, hw7⟩ : ∃ X, X = w6.drew := ⟨_, rfl⟩
  rw [← hw7] at H7 ⊢
  clear hw7
  go_wp2
  go_ret2
  exact ⟨rfl, H7.out.1.1⟩
set_option maxRecDepth 20000 in
set_option maxHeartbeats 4000000 in
theorem recv_un {w : World} {E M N E2 M2 N2 : Nat} {s s2 : St} (p : P5) (h x : Int) (hT : Sha.Tab w) (hL : LG w E M N s) (hO : LG w E2 M2 N2 s2) (hx : IntKind.i64.wrap (1 - s.sd) = x) (hfb : fitG s p x = true) (hcl : s.cl = false) (hr : (lk p.s s.ac).isSome = false) (hlt : lateB p h = false) (hk : (lk p.s s2.cm).isSome = true) (hp : p.ok) (hC2 : sumOf p.s s2.cm = sumP p) (hor : s.o = false) :
    Calls Tryd.prog 9 #[.pointer (some ⟨E, 0, none⟩), pkv p, .int .u64 h, .pointer (some ⟨E2, 0, none⟩)] w fun e w' => e = .returned (.tuple #[.string (Sha.ackS p.d), .int .i64 0]) ∧ LG w' E M N (recU p s) ∧ FrL E M N w w' := by
  have hA := Sha.ack_any p (by have := ((fitG_iff s p x).1 hfb).1.2.2.2; omega)
  have hOf := of_g (Sha.ackS p.d) (by rw [Sha.ackS_size]; decide)
  have hrs : ∀ q : St, q = q := fun _ => rfl
  obtain ⟨A, hAe⟩ : ∃ A, A = Sha.ackS p.d := ⟨_, rfl⟩
  obtain ⟨Q, hQ⟩ : ∃ Q, Q = ackP (Sha.ackS p.d) := ⟨_, rfl⟩
  have hQo : SumOk Q := hQ ▸ ackP_ok _
  rw [← hQ, ← hAe] at hOf
  rw [← hAe] at hA
  have HA := Lib.hid hA
  have HOf := Lib.hid hOf
  have HQ := Lib.hid (And.intro hQ (And.intro hAe hQo))
  clear hA hOf hrs hQ hAe hQo
  have HX := Lib.hid hor
  clear hor
  have HRc := Lib.hid (fun W (hW : LG W E M N s) => hr ▸ received_g p.s hW)
  clear hr
  have HLt := Lib.hid (fun W => hlt ▸ late_g p h W)
  clear hlt
  obtain ⟨b, hb, hne⟩ := neq_sum (sumOf p.s s2.cm) (sumP p) (sumOf_ok hO.cok) (sumP_ok p)
  have hbv : b = true := hb.2 hC2
  rw [hbv] at hne
  have hS := sum_g p ((fitG_iff s p x).1 hfb).1 hp
  have hlk := fun W (hW : LG W E2 M2 N2 s2) => look_g p.s M2 s2.cm W hW.com
  have hC := sumOf_ok (k := p.s) hO.cok
  simp only [hk] at hlk
  generalize sumOf p.s s2.cm = C at *
  generalize sumP p = D at *
  have HNe := Lib.hid hne
  have HS := Lib.hid hS
  clear hne hS hp hb hbv hC2
  have HLk := Lib.hid hlk
  have HC := Lib.hid hC
  clear hlk hC
  have HF := Lib.hid (fun W (hW : LG W E M N s) => hfb ▸ fits_g p x hW)
  have H0 := Lib.hid (PO.new (p := p) hL hO)
  have HEl := Lib.hid (And.intro hL.lt (And.intro hL.en (And.intro hL.mn (And.intro hL.cok hL.aok))))
  have HT := Lib.hid hT
  have HL0 := Lib.hid hL
  clear hfb hL hO hT
  go_enter Tryd.func9, Tryd.ntmps9
  go_upto_region 1 with fail
  refine wp_region_held_drew (S := PO w p E M N s E2 M2 N2 s2) (by kernel_rfl) (PO.drew H0.out) (fun hHeld => ?_)
  refine wpAnyH_take (i := 0) (oi := _) (v := ?_) rfl (by kernel_rfl) (by kernel_rfl) (by kernel_rfl) (fun _ _ _ h => h) (Or.inl ⟨by rfl, ?_⟩) (by assumption) ?_
  rotate_left
  · (intro W hSw; obtain ⟨h0, h1, h2, h3, h4, hf0⟩ := hSw.1.2.1.cells; obtain ⟨e0, e1, e2, e3, e4, e5, e6, e7, e8, hf1⟩ := hSw.1.2.2.cells; go_simp; try with_reducible rfl)
  try simp only [Act.put, List.getElem_toArray, List.getElem_cons_zero, List.setIfInBounds_toArray, List.set_cons_zero, List.set_cons_succ]
  refine wpAnyH_ready (rs := [1]) (by kernel_rfl) (by simp) ?_
  refine AllReadyH.cons rfl (fun K hK => ?_) AllReadyH.nil
  simp only [List.getElem_toArray, List.getElem_cons_succ, List.getElem_cons_zero]
  rw [if_pos (by rfl)]
  go_simp
  (refine (made_g hHeld.1.2.2).mono ?_; rintro e w1 ⟨rfl, hw⟩; obtain rfl := hw.symm; clear hw)
  go_wp2_with fail
  refine hK.out _ _ hHeld (fun hHeld => ?_)
  clear hK K
  try simp only [Act.put, List.getElem_toArray, List.getElem_cons_succ, List.getElem_cons_zero, List.setIfInBounds_toArray, List.set_cons_zero, List.set_cons_succ]
  refine wpAnyH_take (i := 2) (oi := _) (v := ?_) rfl (by kernel_rfl) (by kernel_rfl) (by kernel_rfl) (fun _ _ _ h => h) (Or.inl ⟨by rfl, ?_⟩) (by assumption) ?_
  rotate_left
  · (intro W hSw; obtain ⟨h0, h1, h2, h3, h4, hf0⟩ := hSw.1.2.1.cells; obtain ⟨e0, e1, e2, e3, e4, e5, e6, e7, e8, hf1⟩ := hSw.1.2.2.cells; go_simp; try with_reducible rfl)
  try simp only [Act.put, List.getElem_toArray, List.getElem_cons_succ, List.getElem_cons_zero, List.setIfInBounds_toArray, List.set_cons_zero, List.set_cons_succ]
  refine wpAnyH_take (i := 3) (oi := _) (v := ?_) rfl (by kernel_rfl) (by kernel_rfl) (by kernel_rfl) (fun _ _ _ h => h) (Or.inl ⟨by rfl, ?_⟩) (by assumption) ?_
  rotate_left
  · (intro W hSw; obtain ⟨h0, h1, h2, h3, h4, hf0⟩ := hSw.1.2.1.cells; obtain ⟨e0, e1, e2, e3, e4, e5, e6, e7, e8, hf1⟩ := hSw.1.2.2.cells; go_simp; try with_reducible rfl)
  try simp only [Act.put, List.getElem_toArray, List.getElem_cons_succ, List.getElem_cons_zero, List.setIfInBounds_toArray, List.set_cons_zero, List.set_cons_succ]
  refine wpAnyH_take (i := 4) (oi := _) (v := ?_) rfl (by kernel_rfl) (by kernel_rfl) (by kernel_rfl) (fun _ _ _ h => h) (Or.inl ⟨by rfl, ?_⟩) (by assumption) ?_
  rotate_left
  · (intro W hSw; obtain ⟨h0, h1, h2, h3, h4, hf0⟩ := hSw.1.2.1.cells; obtain ⟨e0, e1, e2, e3, e4, e5, e6, e7, e8, hf1⟩ := hSw.1.2.2.cells; go_simp; try with_reducible rfl)
  try simp only [Act.put, List.getElem_toArray, List.getElem_cons_succ, List.getElem_cons_zero, List.setIfInBounds_toArray, List.set_cons_zero, List.set_cons_succ]
  refine wpAnyH_ready (rs := [5]) (by kernel_rfl) (by simp) ?_
  refine AllReadyH.cons rfl (fun K hK => ?_) AllReadyH.nil
  simp only [List.getElem_toArray, List.getElem_cons_succ, List.getElem_cons_zero]
  rw [if_pos (by rfl)]
  go_simp
  (refine (made_g hHeld.2).mono ?_; rintro e w1 ⟨rfl, hw⟩; obtain rfl := hw.symm; clear hw)
  go_wp2_with fail
  refine hK.out _ _ hHeld (fun hHeld => ?_)
  clear hK K
  try simp only [Act.put, List.getElem_toArray, List.getElem_cons_succ, List.getElem_cons_zero, List.setIfInBounds_toArray, List.set_cons_zero, List.set_cons_succ]
  refine wpAnyH_take (i := 6) (oi := _) (v := ?_) rfl (by kernel_rfl) (by kernel_rfl) (by kernel_rfl) (fun _ _ _ h => h) (Or.inl ⟨by rfl, ?_⟩) (by assumption) ?_
  rotate_left
  · (intro W hSw; obtain ⟨h0, h1, h2, h3, h4, hf0⟩ := hSw.1.2.1.cells; obtain ⟨e0, e1, e2, e3, e4, e5, e6, e7, e8, hf1⟩ := hSw.1.2.2.cells; go_simp; try with_reducible rfl)
  try simp only [Act.put, List.getElem_toArray, List.getElem_cons_succ, List.getElem_cons_zero, List.setIfInBounds_toArray, List.set_cons_zero, List.set_cons_succ]
  refine wpAnyH_take (i := 7) (oi := _) (v := ?_) rfl (by kernel_rfl) (by kernel_rfl) (by kernel_rfl) (fun _ _ _ h => h) (Or.inl ⟨by rfl, ?_⟩) (by assumption) ?_
  rotate_left
  · (intro W hSw; obtain ⟨h0, h1, h2, h3, h4, hf0⟩ := hSw.1.2.1.cells; obtain ⟨e0, e1, e2, e3, e4, e5, e6, e7, e8, hf1⟩ := hSw.1.2.2.cells; go_simp; try with_reducible rfl)
  try simp only [Act.put, List.getElem_toArray, List.getElem_cons_succ, List.getElem_cons_zero, List.setIfInBounds_toArray, List.set_cons_zero, List.set_cons_succ]
  refine wpAnyH_take (i := 8) (oi := _) (v := ?_) rfl (by kernel_rfl) (by kernel_rfl) (by kernel_rfl) (fun _ _ _ h => h) (Or.inl ⟨by rfl, ?_⟩) (by assumption) ?_
  rotate_left
  · (intro W hSw; obtain ⟨h0, h1, h2, h3, h4, hf0⟩ := hSw.1.2.1.cells; obtain ⟨e0, e1, e2, e3, e4, e5, e6, e7, e8, hf1⟩ := hSw.1.2.2.cells; go_simp; try with_reducible rfl)
  try simp only [Act.put, List.getElem_toArray, List.getElem_cons_succ, List.getElem_cons_zero, List.setIfInBounds_toArray, List.set_cons_zero, List.set_cons_succ]
  refine wpAnyH_take (i := 9) (oi := _) (v := ?_) rfl (by kernel_rfl) (by kernel_rfl) (by kernel_rfl) (fun _ _ _ h => h) (Or.inl ⟨by rfl, ?_⟩) (by assumption) ?_
  rotate_left
  · (intro W hSw; obtain ⟨h0, h1, h2, h3, h4, hf0⟩ := hSw.1.2.1.cells; obtain ⟨e0, e1, e2, e3, e4, e5, e6, e7, e8, hf1⟩ := hSw.1.2.2.cells; go_simp; try with_reducible rfl)
  try simp only [Act.put, List.getElem_toArray, List.getElem_cons_succ, List.getElem_cons_zero, List.setIfInBounds_toArray, List.set_cons_zero, List.set_cons_succ]
  refine wpAnyH_take (i := 10) (oi := _) (v := ?_) rfl (by kernel_rfl) (by kernel_rfl) (by kernel_rfl) (fun _ _ _ h => h) (Or.inl ⟨by rfl, ?_⟩) (by assumption) ?_
  rotate_left
  · (intro W hSw; obtain ⟨h0, h1, h2, h3, h4, hf0⟩ := hSw.1.2.1.cells; obtain ⟨e0, e1, e2, e3, e4, e5, e6, e7, e8, hf1⟩ := hSw.1.2.2.cells; go_simp; try with_reducible rfl)
  try simp only [Act.put, List.getElem_toArray, List.getElem_cons_succ, List.getElem_cons_zero, List.setIfInBounds_toArray, List.set_cons_zero, List.set_cons_succ]
  refine wpAnyH_take (i := 11) (oi := _) (v := ?_) rfl (by kernel_rfl) (by kernel_rfl) (by kernel_rfl) (fun _ _ _ h => h) (Or.inl ⟨by rfl, ?_⟩) (by assumption) ?_
  rotate_left
  · (intro W hSw; obtain ⟨h0, h1, h2, h3, h4, hf0⟩ := hSw.1.2.1.cells; obtain ⟨e0, e1, e2, e3, e4, e5, e6, e7, e8, hf1⟩ := hSw.1.2.2.cells; go_simp; try with_reducible rfl)
  try simp only [Act.put, List.getElem_toArray, List.getElem_cons_succ, List.getElem_cons_zero, List.setIfInBounds_toArray, List.set_cons_zero, List.set_cons_succ]
  refine wpAnyH_take (i := 12) (oi := _) (v := ?_) rfl (by kernel_rfl) (by kernel_rfl) (by kernel_rfl) (fun _ _ _ h => h) (Or.inl ⟨by rfl, ?_⟩) (by assumption) ?_
  rotate_left
  · (intro W hSw; obtain ⟨h0, h1, h2, h3, h4, hf0⟩ := hSw.1.2.1.cells; obtain ⟨e0, e1, e2, e3, e4, e5, e6, e7, e8, hf1⟩ := hSw.1.2.2.cells; go_simp; try with_reducible rfl)
  try simp only [Act.put, List.getElem_toArray, List.getElem_cons_succ, List.getElem_cons_zero, List.setIfInBounds_toArray, List.set_cons_zero, List.set_cons_succ]
  refine wpAnyH_take (i := 13) (oi := _) (v := ?_) rfl (by kernel_rfl) (by kernel_rfl) (by kernel_rfl) (fun _ _ _ h => h) (Or.inl ⟨by rfl, ?_⟩) (by assumption) ?_
  rotate_left
  · (intro W hSw; obtain ⟨h0, h1, h2, h3, h4, hf0⟩ := hSw.1.2.1.cells; obtain ⟨e0, e1, e2, e3, e4, e5, e6, e7, e8, hf1⟩ := hSw.1.2.2.cells; go_simp; try with_reducible rfl)
  try simp only [Act.put, List.getElem_toArray, List.getElem_cons_succ, List.getElem_cons_zero, List.setIfInBounds_toArray, List.set_cons_zero, List.set_cons_succ]
  refine wpAnyH_take (i := 14) (oi := _) (v := ?_) rfl (by kernel_rfl) (by kernel_rfl) (by kernel_rfl) (fun _ _ _ h => h) (Or.inl ⟨by rfl, ?_⟩) (by assumption) ?_
  rotate_left
  · (intro W hSw; obtain ⟨h0, h1, h2, h3, h4, hf0⟩ := hSw.1.2.1.cells; obtain ⟨e0, e1, e2, e3, e4, e5, e6, e7, e8, hf1⟩ := hSw.1.2.2.cells; go_simp; try with_reducible rfl)
  try simp only [Act.put, List.getElem_toArray, List.getElem_cons_succ, List.getElem_cons_zero, List.setIfInBounds_toArray, List.set_cons_zero, List.set_cons_succ]
  refine wpAnyH_take (i := 15) (oi := _) (v := ?_) rfl (by kernel_rfl) (by kernel_rfl) (by kernel_rfl) (fun _ _ _ h => h) (Or.inl ⟨by rfl, ?_⟩) (by assumption) ?_
  rotate_left
  · (intro W hSw; obtain ⟨h0, h1, h2, h3, h4, hf0⟩ := hSw.1.2.1.cells; obtain ⟨e0, e1, e2, e3, e4, e5, e6, e7, e8, hf1⟩ := hSw.1.2.2.cells; go_simp; try with_reducible rfl)
  try simp only [Act.put, List.getElem_toArray, List.getElem_cons_succ, List.getElem_cons_zero, List.setIfInBounds_toArray, List.set_cons_zero, List.set_cons_succ]
  refine wpAnyH_ready (rs := [16]) (by kernel_rfl) (by simp) ?_
  refine AllReadyH.cons rfl (fun K hK => ?_) AllReadyH.nil
  simp only [List.getElem_toArray, List.getElem_cons_succ, List.getElem_cons_zero]
  rw [if_pos (by rfl)]
  go_simp
  (refine (HF.out _ hHeld.1.2.2).mono ?_; rintro e w1 ⟨rfl, hb1⟩)
  go_wp2_with fail
  refine hK.out _ _ (PO.call hHeld hb1) (fun hHeld => ?_)
  clear hK K
  try simp only [Act.put, List.getElem_toArray, List.getElem_cons_succ, List.getElem_cons_zero, List.setIfInBounds_toArray, List.set_cons_zero, List.set_cons_succ]
  refine wpAnyH_take (i := 17) (oi := _) (v := ?_) rfl (by kernel_rfl) (by kernel_rfl) (by kernel_rfl) (fun _ _ _ h => h) (Or.inl ⟨by rfl, ?_⟩) (by assumption) ?_
  rotate_left
  · (intro W hSw; obtain ⟨h0, h1, h2, h3, h4, hf0⟩ := hSw.1.2.1.cells; obtain ⟨e0, e1, e2, e3, e4, e5, e6, e7, e8, hf1⟩ := hSw.1.2.2.cells; go_simp; try with_reducible rfl)
  try simp only [Act.put, List.getElem_toArray, List.getElem_cons_succ, List.getElem_cons_zero, List.setIfInBounds_toArray, List.set_cons_zero, List.set_cons_succ]
  refine wpAnyH_take (i := 18) (oi := _) (v := ?_) rfl (by kernel_rfl) (by kernel_rfl) (by kernel_rfl) (fun _ _ _ h => h) (Or.inl ⟨by rfl, ?_⟩) (by assumption) ?_
  rotate_left
  · (intro W hSw; obtain ⟨h0, h1, h2, h3, h4, hf0⟩ := hSw.1.2.1.cells; obtain ⟨e0, e1, e2, e3, e4, e5, e6, e7, e8, hf1⟩ := hSw.1.2.2.cells; go_simp; try with_reducible rfl)
  try simp only [Act.put, List.getElem_toArray, List.getElem_cons_succ, List.getElem_cons_zero, List.setIfInBounds_toArray, List.set_cons_zero, List.set_cons_succ]
  refine wpAnyH_done (by kernel_rfl) ?_ _
  have H1 := Lib.hid hHeld
  clear hHeld H0 hb1
  go_upto_region 3 with fail
  refine wp_region_held_drew (S := PO w p E M N s E2 M2 N2 s2) (by kernel_rfl) (PO.drew H1.out) (fun hHeld => ?_)
  refine wpAnyH_take (i := 0) (oi := _) (v := ?_) rfl (by kernel_rfl) (by kernel_rfl) (by kernel_rfl) (fun _ _ _ h => h) (Or.inl ⟨by rfl, ?_⟩) (by assumption) ?_
  rotate_left
  · (intro W hSw; obtain ⟨h0, h1, h2, h3, h4, hf0⟩ := hSw.1.2.1.cells; obtain ⟨e0, e1, e2, e3, e4, e5, e6, e7, e8, hf1⟩ := hSw.2.cells; have hlk := HLk.out _ hSw.2; go_simp; try with_reducible rfl)
  try simp only [Act.put, List.getElem_toArray, List.getElem_cons_zero, List.setIfInBounds_toArray, List.set_cons_zero, List.set_cons_succ]
  refine wpAnyH_take (i := 1) (oi := _) (v := ?_) rfl (by kernel_rfl) (by kernel_rfl) (by kernel_rfl) (fun _ _ _ h => h) (Or.inl ⟨by rfl, ?_⟩) (by assumption) ?_
  rotate_left
  · (intro W hSw; obtain ⟨h0, h1, h2, h3, h4, hf0⟩ := hSw.1.2.1.cells; obtain ⟨e0, e1, e2, e3, e4, e5, e6, e7, e8, hf1⟩ := hSw.2.cells; have hlk := HLk.out _ hSw.2; go_simp; try with_reducible rfl)
  try simp only [Act.put, List.getElem_toArray, List.getElem_cons_succ, List.getElem_cons_zero, List.setIfInBounds_toArray, List.set_cons_zero, List.set_cons_succ]
  refine wpAnyH_take (i := 2) (oi := _) (v := ?_) rfl (by kernel_rfl) (by kernel_rfl) (by kernel_rfl) (fun _ _ _ h => h) (Or.inl ⟨by rfl, ?_⟩) (by assumption) ?_
  rotate_left
  · (intro W hSw; obtain ⟨h0, h1, h2, h3, h4, hf0⟩ := hSw.1.2.1.cells; obtain ⟨e0, e1, e2, e3, e4, e5, e6, e7, e8, hf1⟩ := hSw.2.cells; have hlk := HLk.out _ hSw.2; go_simp; try with_reducible rfl)
  try simp only [Act.put, List.getElem_toArray, List.getElem_cons_succ, List.getElem_cons_zero, List.setIfInBounds_toArray, List.set_cons_zero, List.set_cons_succ]
  refine wpAnyH_take (i := 3) (oi := _) (v := ?_) rfl (by kernel_rfl) (by kernel_rfl) (by kernel_rfl) (fun _ _ _ h => h) (Or.inl ⟨by rfl, ?_⟩) (by assumption) ?_
  rotate_left
  · (intro W hSw; obtain ⟨h0, h1, h2, h3, h4, hf0⟩ := hSw.1.2.1.cells; obtain ⟨e0, e1, e2, e3, e4, e5, e6, e7, e8, hf1⟩ := hSw.2.cells; have hlk := HLk.out _ hSw.2; go_simp; try with_reducible rfl)
  try simp only [Act.put, List.getElem_toArray, List.getElem_cons_succ, List.getElem_cons_zero, List.setIfInBounds_toArray, List.set_cons_zero, List.set_cons_succ]
  refine wpAnyH_take (i := 4) (oi := _) (v := ?_) rfl (by kernel_rfl) (by kernel_rfl) (by kernel_rfl) (fun _ _ _ h => h) (Or.inl ⟨by rfl, ?_⟩) (by assumption) ?_
  rotate_left
  · (intro W hSw; obtain ⟨h0, h1, h2, h3, h4, hf0⟩ := hSw.1.2.1.cells; obtain ⟨e0, e1, e2, e3, e4, e5, e6, e7, e8, hf1⟩ := hSw.2.cells; have hlk := HLk.out _ hSw.2; go_simp; try with_reducible rfl)
  try simp only [Act.put, List.getElem_toArray, List.getElem_cons_succ, List.getElem_cons_zero, List.setIfInBounds_toArray, List.set_cons_zero, List.set_cons_succ]
  refine wpAnyH_take (i := 5) (oi := _) (v := ?_) rfl (by kernel_rfl) (by kernel_rfl) (by kernel_rfl) (fun _ _ _ h => h) (Or.inl ⟨by rfl, ?_⟩) (by assumption) ?_
  rotate_left
  · (intro W hSw; obtain ⟨h0, h1, h2, h3, h4, hf0⟩ := hSw.1.2.1.cells; obtain ⟨e0, e1, e2, e3, e4, e5, e6, e7, e8, hf1⟩ := hSw.2.cells; have hlk := HLk.out _ hSw.2; go_simp; try with_reducible rfl)
  try simp only [Act.put, List.getElem_toArray, List.getElem_cons_succ, List.getElem_cons_zero, List.setIfInBounds_toArray, List.set_cons_zero, List.set_cons_succ]
  refine wpAnyH_take (i := 6) (oi := _) (v := ?_) rfl (by kernel_rfl) (by kernel_rfl) (by kernel_rfl) (fun _ _ _ h => h) (Or.inl ⟨by rfl, ?_⟩) (by assumption) ?_
  rotate_left
  · (intro W hSw; obtain ⟨h0, h1, h2, h3, h4, hf0⟩ := hSw.1.2.1.cells; obtain ⟨e0, e1, e2, e3, e4, e5, e6, e7, e8, hf1⟩ := hSw.2.cells; have hlk := HLk.out _ hSw.2; go_simp; try with_reducible rfl)
  try simp only [Act.put, List.getElem_toArray, List.getElem_cons_succ, List.getElem_cons_zero, List.setIfInBounds_toArray, List.set_cons_zero, List.set_cons_succ]
  refine wpAnyH_take (i := 7) (oi := _) (v := ?_) rfl (by kernel_rfl) (by kernel_rfl) (by kernel_rfl) (fun _ _ _ h => h) (Or.inl ⟨by rfl, ?_⟩) (by assumption) ?_
  rotate_left
  · (intro W hSw; obtain ⟨h0, h1, h2, h3, h4, hf0⟩ := hSw.1.2.1.cells; obtain ⟨e0, e1, e2, e3, e4, e5, e6, e7, e8, hf1⟩ := hSw.2.cells; have hlk := HLk.out _ hSw.2; go_simp; try with_reducible rfl)
  try simp only [Act.put, List.getElem_toArray, List.getElem_cons_succ, List.getElem_cons_zero, List.setIfInBounds_toArray, List.set_cons_zero, List.set_cons_succ]
  refine wpAnyH_take (i := 8) (oi := _) (v := ?_) rfl (by kernel_rfl) (by kernel_rfl) (by kernel_rfl) (fun _ _ _ h => h) (Or.inl ⟨by rfl, ?_⟩) (by assumption) ?_
  rotate_left
  · (intro W hSw; obtain ⟨h0, h1, h2, h3, h4, hf0⟩ := hSw.1.2.1.cells; obtain ⟨e0, e1, e2, e3, e4, e5, e6, e7, e8, hf1⟩ := hSw.2.cells; have hlk := HLk.out _ hSw.2; go_simp; try with_reducible rfl)
  try simp only [Act.put, List.getElem_toArray, List.getElem_cons_succ, List.getElem_cons_zero, List.setIfInBounds_toArray, List.set_cons_zero, List.set_cons_succ]
  refine wpAnyH_take (i := 9) (oi := _) (v := ?_) rfl (by kernel_rfl) (by kernel_rfl) (by kernel_rfl) (fun _ _ _ h => h) (Or.inl ⟨by rfl, ?_⟩) (by assumption) ?_
  rotate_left
  · (intro W hSw; obtain ⟨h0, h1, h2, h3, h4, hf0⟩ := hSw.1.2.1.cells; obtain ⟨e0, e1, e2, e3, e4, e5, e6, e7, e8, hf1⟩ := hSw.2.cells; have hlk := HLk.out _ hSw.2; go_simp; try with_reducible rfl)
  try simp only [Act.put, List.getElem_toArray, List.getElem_cons_succ, List.getElem_cons_zero, List.setIfInBounds_toArray, List.set_cons_zero, List.set_cons_succ]
  refine wpAnyH_ready (rs := [10]) (by kernel_rfl) (by simp) ?_
  refine AllReadyH.cons rfl (fun K hK => ?_) AllReadyH.nil
  simp only [List.getElem_toArray, List.getElem_cons_succ, List.getElem_cons_zero]
  rw [if_pos (by rfl)]
  go_simp
  refine hK.out _ _ (PO.call hHeld ((Below.refl _ _).alloc (Nat.le_refl _) _)) (fun hHeld => ?_)
  clear hK K
  try simp only [Act.put, List.getElem_toArray, List.getElem_cons_succ, List.getElem_cons_zero, List.setIfInBounds_toArray, List.set_cons_zero, List.set_cons_succ]
  have hst : (storeCells ⟨w1.heap.size, 0, none⟩ C.toList).run Tryd.prog (w1.alloc (.cells #[.int .u8 0, .int .u8 0, .int .u8 0, .int .u8 0, .int .u8 0, .int .u8 0, .int .u8 0, .int .u8 0, .int .u8 0, .int .u8 0, .int .u8 0, .int .u8 0, .int .u8 0, .int .u8 0, .int .u8 0, .int .u8 0, .int .u8 0, .int .u8 0, .int .u8 0, .int .u8 0, .int .u8 0, .int .u8 0, .int .u8 0, .int .u8 0, .int .u8 0, .int .u8 0, .int .u8 0, .int .u8 0, .int .u8 0, .int .u8 0, .int .u8 0, .int .u8 0] TSm)).drew = .ok () (w1.alloc (.cells C TSm)).drew := run_storeCells_new (P := Tryd.prog) w1.drew TSm #[.int .u8 0, .int .u8 0, .int .u8 0, .int .u8 0, .int .u8 0, .int .u8 0, .int .u8 0, .int .u8 0, .int .u8 0, .int .u8 0, .int .u8 0, .int .u8 0, .int .u8 0, .int .u8 0, .int .u8 0, .int .u8 0, .int .u8 0, .int .u8 0, .int .u8 0, .int .u8 0, .int .u8 0, .int .u8 0, .int .u8 0, .int .u8 0, .int .u8 0, .int .u8 0, .int .u8 0, .int .u8 0, .int .u8 0, .int .u8 0, .int .u8 0, .int .u8 0] C (i32 C HC.out.1) (by rw [HC.out.1]; rfl) HC.out.2.1
  have hCz := HC.out.1
  refine wpAnyH_ready (rs := [11]) (by kernel_rfl) (by simp) ?_
  refine AllReadyH.cons rfl (fun K hK => ?_) AllReadyH.nil
  simp only [List.getElem_toArray, List.getElem_cons_succ, List.getElem_cons_zero]
  rw [if_pos (by rfl)]
  go_simp
  refine hK.out _ _ (PO.call (PO.drew H1.out) ((Below.refl _ _).alloc (Nat.le_refl _) _)) (fun hHeld => ?_)
  clear hK K
  try simp only [Act.put, List.getElem_toArray, List.getElem_cons_succ, List.getElem_cons_zero, List.setIfInBounds_toArray, List.set_cons_zero, List.set_cons_succ]
  refine wpAnyH_take (i := 12) (oi := _) (v := ?_) rfl (by kernel_rfl) (by kernel_rfl) (by kernel_rfl) (fun _ _ _ h => h) (Or.inl ⟨by rfl, ?_⟩) (by assumption) ?_
  rotate_left
  · (intro W hSw; obtain ⟨h0, h1, h2, h3, h4, hf0⟩ := hSw.1.2.1.cells; obtain ⟨e0, e1, e2, e3, e4, e5, e6, e7, e8, hf1⟩ := hSw.2.cells; have hlk := HLk.out _ hSw.2; go_simp; try with_reducible rfl)
  try simp only [Act.put, List.getElem_toArray, List.getElem_cons_succ, List.getElem_cons_zero, List.setIfInBounds_toArray, List.set_cons_zero, List.set_cons_succ]
  refine wpAnyH_done (by kernel_rfl) ?_ _
  have H3 : Hid (PO w p E M N s E2 M2 N2 s2 ((w1.alloc (.cells C TSm)).drew) ∧ (w1.alloc (.cells C TSm)).drew.heap[w1.heap.size]? = some (.cells C TSm (0, 0))) := Lib.hid ⟨hHeld, heap_alloc_new w1.drew _⟩
  obtain ⟨w3, hw3⟩ : ∃ X, X = (w1.alloc (.cells C TSm)).drew := ⟨_, rfl⟩
  obtain ⟨G, hG⟩ : ∃ X, X = w1.heap.size := ⟨_, rfl⟩
  rw [← hw3] at H3 ⊢
  rw [← hG] at H3 ⊢
  clear hw3 hG hst hHeld H1
  obtain ⟨h0, h1, h2, h3, h4, hf0⟩ := H3.out.1.1.2.1.cells
  obtain ⟨e0, e1, e2, e3, e4, e5, e6, e7, e8, hf1⟩ := H3.out.1.1.2.2.cells
  go_wp2_with fail
  refine (HRc.out _ H3.out.1.1.2.2).mono ?_
  rintro _ w4 ⟨rfl, b4⟩
  have H4 : Hid (PO w p E M N s E2 M2 N2 s2 w4 ∧ w4.heap[G]? = some (.cells C TSm (0, 0))) := Lib.hid ⟨PO.call H3.out.1 b4, (b4.block _ (lt_of H3.out.2)).trans H3.out.2⟩
  clear h0 h1 h2 h3 h4 hf0 e0 e1 e2 e3 e4 e5 e6 e7 e8 hf1 b4 H3
  obtain ⟨h0, h1, h2, h3, h4, hf0⟩ := H4.out.1.1.2.1.cells
  obtain ⟨e0, e1, e2, e3, e4, e5, e6, e7, e8, hf1⟩ := H4.out.1.1.2.2.cells
  go_wp2_with fail
  refine (HLt.out _).mono ?_
  rintro _ w5 ⟨rfl, b5⟩
  have H5 : Hid (PO w p E M N s E2 M2 N2 s2 w5 ∧ w5.heap[G]? = some (.cells C TSm (0, 0))) := Lib.hid ⟨PO.call H4.out.1 b5, (b5.block _ (lt_of H4.out.2)).trans H4.out.2⟩
  clear h0 h1 h2 h3 h4 hf0 e0 e1 e2 e3 e4 e5 e6 e7 e8 hf1 b5 H4
  obtain ⟨h0, h1, h2, h3, h4, hf0⟩ := H5.out.1.1.2.1.cells
  obtain ⟨e0, e1, e2, e3, e4, e5, e6, e7, e8, hf1⟩ := H5.out.1.1.2.2.cells
  go_upto_region 8 with fail
  clear h0 h1 h2 h3 h4 hf0 e0 e1 e2 e3 e4 e5 e6 e7 e8 hf1
  refine wp_region_held_drew (S := fun W => PO w p E M N s E2 M2 N2 s2 W ∧ W.heap[G]? = some (.cells C TSm (0, 0))) (by kernel_rfl) ⟨PO.drew H5.out.1, H5.out.2⟩ (fun hHeld => ?_)
  refine wpAnyH_take (i := 0) (oi := _) (v := ?_) rfl (by kernel_rfl) (by kernel_rfl) (by kernel_rfl) (fun _ _ _ h => h) (Or.inl ⟨by rfl, ?_⟩) (by assumption) ?_
  rotate_left
  · (intro W hSw; (refine Sha.yields_row TSm (.tmp 10) ?_ G ?_ TSm C (0, 0) _ hSw.2 Tryd.underlying55 rfl (i32 C HC.out.1)); rfl; rfl)
  try simp only [Act.put, List.getElem_toArray, List.getElem_cons_zero, List.setIfInBounds_toArray, List.set_cons_zero, List.set_cons_succ]
  refine wpAnyH_take (i := 1) (oi := _) (v := ?_) rfl (by kernel_rfl) (by kernel_rfl) (by kernel_rfl) (fun _ _ _ h => h) (Or.inl ⟨by rfl, ?_⟩) (by assumption) ?_
  rotate_left
  · (intro W hSw; obtain ⟨h0, h1, h2, h3, h4, hf0⟩ := hSw.1.1.2.1.cells; go_simp; try with_reducible rfl)
  try simp only [Act.put, List.getElem_toArray, List.getElem_cons_succ, List.getElem_cons_zero, List.setIfInBounds_toArray, List.set_cons_zero, List.set_cons_succ]
  refine wpAnyH_ready (rs := [2]) (by kernel_rfl) (by simp) ?_
  refine AllReadyH.cons rfl (fun K hK => ?_) AllReadyH.nil
  simp only [List.getElem_toArray, List.getElem_cons_succ, List.getElem_cons_zero]
  rw [if_pos (by rfl)]
  go_simp
  (refine (HS.out _ (Sha.tab_below HT.out hHeld.1.1.1)).mono ?_; rintro e w6 ⟨rfl, hb6⟩)
  go_wp2_with fail
  refine hK.out _ _ ⟨PO.call hHeld.1 hb6, (hb6.block _ (lt_of hHeld.2)).trans hHeld.2⟩ (fun hHeld => ?_)
  clear hK K
  try simp only [Act.put, List.getElem_toArray, List.getElem_cons_succ, List.getElem_cons_zero, List.setIfInBounds_toArray, List.set_cons_zero, List.set_cons_succ]
  have hneq := HNe.out
  refine wpAnyH_take (i := 3) (oi := _) (v := ?_) rfl (by kernel_rfl) (by kernel_rfl) (by kernel_rfl) (fun _ _ _ h => h) (Or.inl ⟨by rfl, ?_⟩) (by assumption) ?_
  rotate_left
  · (intro W hSw; obtain ⟨h0, h1, h2, h3, h4, hf0⟩ := hSw.1.1.2.1.cells; go_simp; try with_reducible rfl)
  try simp only [Act.put, List.getElem_toArray, List.getElem_cons_succ, List.getElem_cons_zero, List.setIfInBounds_toArray, List.set_cons_zero, List.set_cons_succ]
  refine wpAnyH_take (i := 4) (oi := _) (v := ?_) rfl (by kernel_rfl) (by kernel_rfl) (by kernel_rfl) (fun _ _ _ h => h) (Or.inl ⟨by rfl, ?_⟩) (by assumption) ?_
  rotate_left
  · (intro W hSw; obtain ⟨h0, h1, h2, h3, h4, hf0⟩ := hSw.1.1.2.1.cells; go_simp; try with_reducible rfl)
  try simp only [Act.put, List.getElem_toArray, List.getElem_cons_succ, List.getElem_cons_zero, List.setIfInBounds_toArray, List.set_cons_zero, List.set_cons_succ]
  refine wpAnyH_done (by kernel_rfl) ?_ _
  have H6 := Lib.hid hHeld.1
  clear hHeld hneq hb6 H5
  have hor := HX.out
  go_upto_region 9 with fail
  refine wp_region_held_drew (S := PO w p E M N s E2 M2 N2 s2) (by kernel_rfl) (PO.drew H6.out) (fun hHeld => ?_)
  refine wpAnyH_take (i := 0) (oi := _) (v := ?_) rfl (by kernel_rfl) (by kernel_rfl) (by kernel_rfl) (fun _ _ _ h => h) (Or.inl ⟨by rfl, ?_⟩) (by assumption) ?_
  rotate_left
  · (intro W hSw; obtain ⟨h0, h1, h2, h3, h4, hf0⟩ := hSw.1.2.1.cells; obtain ⟨e0, e1, e2, e3, e4, e5, e6, e7, e8, hf1⟩ := hSw.1.2.2.cells; go_simp; try with_reducible rfl)
  try simp only [Act.put, List.getElem_toArray, List.getElem_cons_zero, List.setIfInBounds_toArray, List.set_cons_zero, List.set_cons_succ]
  refine wpAnyH_take (i := 1) (oi := _) (v := ?_) rfl (by kernel_rfl) (by kernel_rfl) (by kernel_rfl) (fun _ _ _ h => h) (Or.inl ⟨by rfl, ?_⟩) (by assumption) ?_
  rotate_left
  · (intro W hSw; obtain ⟨h0, h1, h2, h3, h4, hf0⟩ := hSw.1.2.1.cells; obtain ⟨e0, e1, e2, e3, e4, e5, e6, e7, e8, hf1⟩ := hSw.1.2.2.cells; go_simp; try with_reducible rfl)
  try simp only [Act.put, List.getElem_toArray, List.getElem_cons_succ, List.getElem_cons_zero, List.setIfInBounds_toArray, List.set_cons_zero, List.set_cons_succ]
  refine wpAnyH_take (i := 2) (oi := _) (v := ?_) rfl (by kernel_rfl) (by kernel_rfl) (by kernel_rfl) (fun _ _ _ h => h) (Or.inl ⟨by rfl, ?_⟩) (by assumption) ?_
  rotate_left
  · (intro W hSw; obtain ⟨h0, h1, h2, h3, h4, hf0⟩ := hSw.1.2.1.cells; obtain ⟨e0, e1, e2, e3, e4, e5, e6, e7, e8, hf1⟩ := hSw.1.2.2.cells; go_simp; try with_reducible rfl)
  try simp only [Act.put, List.getElem_toArray, List.getElem_cons_succ, List.getElem_cons_zero, List.setIfInBounds_toArray, List.set_cons_zero, List.set_cons_succ]
  refine wpAnyH_take (i := 3) (oi := _) (v := ?_) rfl (by kernel_rfl) (by kernel_rfl) (by kernel_rfl) (fun _ _ _ h => h) (Or.inl ⟨by rfl, ?_⟩) (by assumption) ?_
  rotate_left
  · (intro W hSw; obtain ⟨h0, h1, h2, h3, h4, hf0⟩ := hSw.1.2.1.cells; obtain ⟨e0, e1, e2, e3, e4, e5, e6, e7, e8, hf1⟩ := hSw.1.2.2.cells; go_simp; try with_reducible rfl)
  try simp only [Act.put, List.getElem_toArray, List.getElem_cons_succ, List.getElem_cons_zero, List.setIfInBounds_toArray, List.set_cons_zero, List.set_cons_succ]
  refine wpAnyH_take (i := 4) (oi := _) (v := ?_) rfl (by kernel_rfl) (by kernel_rfl) (by kernel_rfl) (fun _ _ _ h => h) (Or.inl ⟨by rfl, ?_⟩) (by assumption) ?_
  rotate_left
  · (intro W hSw; obtain ⟨h0, h1, h2, h3, h4, hf0⟩ := hSw.1.2.1.cells; obtain ⟨e0, e1, e2, e3, e4, e5, e6, e7, e8, hf1⟩ := hSw.1.2.2.cells; go_simp; try with_reducible rfl)
  try simp only [Act.put, List.getElem_toArray, List.getElem_cons_succ, List.getElem_cons_zero, List.setIfInBounds_toArray, List.set_cons_zero, List.set_cons_succ]
  refine wpAnyH_take (i := 5) (oi := _) (v := undef) rfl (by kernel_rfl) (by kernel_rfl) (by kernel_rfl) (fun _ _ _ h => h) (Or.inr ⟨by rfl, rfl⟩) (by assumption) ?_
  try simp only [Act.put, List.getElem_toArray, List.getElem_cons_succ, List.getElem_cons_zero, List.setIfInBounds_toArray, List.set_cons_zero, List.set_cons_succ]
  refine wpAnyH_take (i := 6) (oi := _) (v := undef) rfl (by kernel_rfl) (by kernel_rfl) (by kernel_rfl) (fun _ _ _ h => h) (Or.inr ⟨by rfl, rfl⟩) (by assumption) ?_
  try simp only [Act.put, List.getElem_toArray, List.getElem_cons_succ, List.getElem_cons_zero, List.setIfInBounds_toArray, List.set_cons_zero, List.set_cons_succ]
  refine wpAnyH_take (i := 7) (oi := _) (v := undef) rfl (by kernel_rfl) (by kernel_rfl) (by kernel_rfl) (fun _ _ _ h => h) (Or.inr ⟨by rfl, rfl⟩) (by assumption) ?_
  try simp only [Act.put, List.getElem_toArray, List.getElem_cons_succ, List.getElem_cons_zero, List.setIfInBounds_toArray, List.set_cons_zero, List.set_cons_succ]
  refine wpAnyH_take (i := 8) (oi := _) (v := undef) rfl (by kernel_rfl) (by kernel_rfl) (by kernel_rfl) (fun _ _ _ h => h) (Or.inr ⟨by rfl, rfl⟩) (by assumption) ?_
  try simp only [Act.put, List.getElem_toArray, List.getElem_cons_succ, List.getElem_cons_zero, List.setIfInBounds_toArray, List.set_cons_zero, List.set_cons_succ]
  refine wpAnyH_take (i := 9) (oi := _) (v := undef) rfl (by kernel_rfl) (by kernel_rfl) (by kernel_rfl) (fun _ _ _ h => h) (Or.inr ⟨by rfl, rfl⟩) (by assumption) ?_
  try simp only [Act.put, List.getElem_toArray, List.getElem_cons_succ, List.getElem_cons_zero, List.setIfInBounds_toArray, List.set_cons_zero, List.set_cons_succ]
  refine wpAnyH_take (i := 10) (oi := _) (v := undef) rfl (by kernel_rfl) (by kernel_rfl) (by kernel_rfl) (fun _ _ _ h => h) (Or.inr ⟨by rfl, rfl⟩) (by assumption) ?_
  try simp only [Act.put, List.getElem_toArray, List.getElem_cons_succ, List.getElem_cons_zero, List.setIfInBounds_toArray, List.set_cons_zero, List.set_cons_succ]
  refine wpAnyH_take (i := 11) (oi := _) (v := undef) rfl (by kernel_rfl) (by kernel_rfl) (by kernel_rfl) (fun _ _ _ h => h) (Or.inr ⟨by rfl, rfl⟩) (by assumption) ?_
  try simp only [Act.put, List.getElem_toArray, List.getElem_cons_succ, List.getElem_cons_zero, List.setIfInBounds_toArray, List.set_cons_zero, List.set_cons_succ]
  refine wpAnyH_take (i := 12) (oi := _) (v := ?_) rfl (by kernel_rfl) (by kernel_rfl) (by kernel_rfl) (fun _ _ _ h => h) (Or.inl ⟨by rfl, ?_⟩) (by assumption) ?_
  rotate_left
  · (intro W hSw; obtain ⟨h0, h1, h2, h3, h4, hf0⟩ := hSw.1.2.1.cells; obtain ⟨e0, e1, e2, e3, e4, e5, e6, e7, e8, hf1⟩ := hSw.1.2.2.cells; go_simp; try with_reducible rfl)
  try simp only [Act.put, List.getElem_toArray, List.getElem_cons_succ, List.getElem_cons_zero, List.setIfInBounds_toArray, List.set_cons_zero, List.set_cons_succ]
  refine wpAnyH_take (i := 13) (oi := _) (v := ?_) rfl (by kernel_rfl) (by kernel_rfl) (by kernel_rfl) (fun _ _ _ h => h) (Or.inl ⟨by rfl, ?_⟩) (by assumption) ?_
  rotate_left
  · (intro W hSw; obtain ⟨h0, h1, h2, h3, h4, hf0⟩ := hSw.1.2.1.cells; obtain ⟨e0, e1, e2, e3, e4, e5, e6, e7, e8, hf1⟩ := hSw.1.2.2.cells; go_simp; try with_reducible rfl)
  try simp only [Act.put, List.getElem_toArray, List.getElem_cons_succ, List.getElem_cons_zero, List.setIfInBounds_toArray, List.set_cons_zero, List.set_cons_succ]
  refine wpAnyH_done (by kernel_rfl) ?_ _
  have H7 := Lib.hid (PO.drew H6.out)
  clear hHeld H6
  obtain ⟨w7, hw7⟩ : ∃ X, X = w6.drew := ⟨_, rfl⟩
  rw [← hw7] at H7 ⊢
  clear hw7
  obtain ⟨h0, h1, h2, h3, h4, hf0⟩ := H7.out.1.2.1.cells
  obtain ⟨e0, e1, e2, e3, e4, e5, e6, e7, e8, hf1⟩ := H7.out.1.2.2.cells
  go_upto_region 17 with fail
  clear h0 h1 h2 h3 h4 hf0 e0 e1 e2 e3 e4 e5 e6 e7 e8 hf1 hor
  have HK := Lib.hid (And.intro H7.out.1.2.2 (And.intro (FrL.of_below (E := E) (M := M) (N := N) H7.out.1.1) H7.out.1.2.1))
  obtain ⟨h0, h1, h2, h3, h4, hf0⟩ := HK.out.2.2.cells
  go_wp2_with fail
  refine (HA.out _ (HK.out.2.1.tab HT.out HL0.out)).mono ?_
  rintro _ wa ⟨rfl, ba⟩
  have HZ : Hid (PR w p E M N s wa) := Lib.hid ⟨HK.out.2.1.call ba, HK.out.2.2.below ba, (HK.out.1.below ba).box, (HK.out.1.below ba).com⟩
  have HTa := Lib.hid (Sha.tab_below (HK.out.2.1.tab HT.out HL0.out) ba)
  have HN := Lib.hid (HK.out.1.below ba).ack
  clear h0 h1 h2 h3 h4 hf0 HK ba
  go_upto_region 18 with fail
  refine wp_region_held_drew (S := PR w p E M N s) (by kernel_rfl) (PR.drew HZ.out) (fun hHeld => ?_)
  refine wpAnyH_take (i := 0) (oi := _) (v := ?_) rfl (by kernel_rfl) (by kernel_rfl) (by kernel_rfl) (fun _ _ _ h => h) (Or.inl ⟨by rfl, ?_⟩) (by assumption) ?_
  rotate_left
  · (intro W hSw; obtain ⟨h0, h1, h2, h3, h4, hf0⟩ := hSw.2.1.cells; have e8 := hSw.cells; go_simp; try with_reducible rfl)
  try simp only [Act.put, List.getElem_toArray, List.getElem_cons_zero, List.setIfInBounds_toArray, List.set_cons_zero, List.set_cons_succ]
  refine wpAnyH_take (i := 1) (oi := _) (v := ?_) rfl (by kernel_rfl) (by kernel_rfl) (by kernel_rfl) (fun _ _ _ h => h) (Or.inl ⟨by rfl, ?_⟩) (by assumption) ?_
  rotate_left
  · (intro W hSw; obtain ⟨h0, h1, h2, h3, h4, hf0⟩ := hSw.2.1.cells; have e8 := hSw.cells; go_simp; try with_reducible rfl)
  try simp only [Act.put, List.getElem_toArray, List.getElem_cons_succ, List.getElem_cons_zero, List.setIfInBounds_toArray, List.set_cons_zero, List.set_cons_succ]
  refine wpAnyH_take (i := 2) (oi := _) (v := ?_) rfl (by kernel_rfl) (by kernel_rfl) (by kernel_rfl) (fun _ _ _ h => h) (Or.inl ⟨by rfl, ?_⟩) (by assumption) ?_
  rotate_left
  · (intro W hSw; obtain ⟨h0, h1, h2, h3, h4, hf0⟩ := hSw.2.1.cells; have e8 := hSw.cells; go_simp; try with_reducible rfl)
  try simp only [Act.put, List.getElem_toArray, List.getElem_cons_succ, List.getElem_cons_zero, List.setIfInBounds_toArray, List.set_cons_zero, List.set_cons_succ]
  refine wpAnyH_take (i := 3) (oi := _) (v := ?_) rfl (by kernel_rfl) (by kernel_rfl) (by kernel_rfl) (fun _ _ _ h => h) (Or.inl ⟨by rfl, ?_⟩) (by assumption) ?_
  rotate_left
  · (intro W hSw; obtain ⟨h0, h1, h2, h3, h4, hf0⟩ := hSw.2.1.cells; have e8 := hSw.cells; go_simp; try with_reducible rfl)
  try simp only [Act.put, List.getElem_toArray, List.getElem_cons_succ, List.getElem_cons_zero, List.setIfInBounds_toArray, List.set_cons_zero, List.set_cons_succ]
  refine wpAnyH_take (i := 4) (oi := _) (v := ?_) rfl (by kernel_rfl) (by kernel_rfl) (by kernel_rfl) (fun _ _ _ h => h) (Or.inl ⟨by rfl, ?_⟩) (by assumption) ?_
  rotate_left
  · (intro W hSw; obtain ⟨h0, h1, h2, h3, h4, hf0⟩ := hSw.2.1.cells; have e8 := hSw.cells; go_simp; try with_reducible rfl)
  try simp only [Act.put, List.getElem_toArray, List.getElem_cons_succ, List.getElem_cons_zero, List.setIfInBounds_toArray, List.set_cons_zero, List.set_cons_succ]
  refine wpAnyH_take (i := 5) (oi := _) (v := ?_) rfl (by kernel_rfl) (by kernel_rfl) (by kernel_rfl) (fun _ _ _ h => h) (Or.inl ⟨by rfl, ?_⟩) (by assumption) ?_
  rotate_left
  · (intro W hSw; obtain ⟨h0, h1, h2, h3, h4, hf0⟩ := hSw.2.1.cells; have e8 := hSw.cells; go_simp; try with_reducible rfl)
  try simp only [Act.put, List.getElem_toArray, List.getElem_cons_succ, List.getElem_cons_zero, List.setIfInBounds_toArray, List.set_cons_zero, List.set_cons_succ]
  refine wpAnyH_take (i := 6) (oi := _) (v := ?_) rfl (by kernel_rfl) (by kernel_rfl) (by kernel_rfl) (fun _ _ _ h => h) (Or.inl ⟨by rfl, ?_⟩) (by assumption) ?_
  rotate_left
  · (intro W hSw; obtain ⟨h0, h1, h2, h3, h4, hf0⟩ := hSw.2.1.cells; have e8 := hSw.cells; go_simp; try with_reducible rfl)
  try simp only [Act.put, List.getElem_toArray, List.getElem_cons_succ, List.getElem_cons_zero, List.setIfInBounds_toArray, List.set_cons_zero, List.set_cons_succ]
  refine wpAnyH_ready (rs := [7]) (by kernel_rfl) (by simp) ?_
  refine AllReadyH.cons rfl (fun K hK => ?_) AllReadyH.nil
  simp only [List.getElem_toArray, List.getElem_cons_succ, List.getElem_cons_zero]
  rw [if_pos (by rfl)]
  go_simp
  refine hK.out _ _ (PR.call hHeld ((Below.refl _ _).alloc (Nat.le_refl _) _)) (fun hHeld => ?_)
  clear hK K
  try simp only [Act.put, List.getElem_toArray, List.getElem_cons_succ, List.getElem_cons_zero, List.setIfInBounds_toArray, List.set_cons_zero, List.set_cons_succ]
  have hbx : Below wa.heap.size wa (wa.alloc (.cells #[.string A] 9)).drew := ((Below.refl _ _).alloc (Nat.le_refl _) _).drew
  have HBx := Lib.hid hbx
  clear hbx
  refine wpAnyH_ready (rs := [8]) (by kernel_rfl) (by simp) ?_
  refine AllReadyH.cons rfl (fun K hK => ?_) AllReadyH.nil
  simp only [List.getElem_toArray, List.getElem_cons_succ, List.getElem_cons_zero]
  rw [if_pos (by rfl)]
  go_simp
  (refine (HOf.out _ _ (Sha.tab_below HTa.out HBx.out) (by simp) (by simp)).mono ?_; rintro e wo ⟨rfl, hbo⟩)
  go_wp2_with fail
  refine hK.out _ _ (PR.call hHeld hbo) (fun hHeld => ?_)
  clear hK K
  try simp only [Act.put, List.getElem_toArray, List.getElem_cons_succ, List.getElem_cons_zero, List.setIfInBounds_toArray, List.set_cons_zero, List.set_cons_succ]
  have HBo := Lib.hid (HBx.out.trans (hbo.mono HBx.out.size))
  obtain ⟨wd, hput, hmg, hon⟩ := put_run ks_ok p.s Q N s.ac wo (HN.out.below HBo.out)
  have hput' : (Instr.mapUpdate TMp (.map (some N)) (.int .u64 p.s) (.agg Q)).run Tryd.prog wo = .ok () wd := hput
  have HG := Lib.hid hmg
  have HO := Lib.hid hon
  clear hput hmg hon
  refine wpAnyH_ready (rs := [9]) (by kernel_rfl) (by simp) ?_
  refine AllReadyH.cons rfl (fun K hK => ?_) AllReadyH.nil
  simp only [List.getElem_toArray, List.getElem_cons_succ, List.getElem_cons_zero]
  rw [if_pos (by rfl)]
  go_simp
  refine hK.out _ _ (PR.on hHeld HO.out HEl.out.1.2.2 HEl.out.2.1 HEl.out.2.2.1) (fun hHeld => ?_)
  clear hK K
  try simp only [Act.put, List.getElem_toArray, List.getElem_cons_succ, List.getElem_cons_zero, List.setIfInBounds_toArray, List.set_cons_zero, List.set_cons_succ]
  refine wpAnyH_done (by kernel_rfl) ?_ _
  have H9 := Lib.hid hHeld
  clear hput' hHeld hbo HBx HBo HZ HN HTa
  go_wp2
  go_ret2
  refine ⟨by rw [← HQ.out.2.1] <;> rfl, ⟨H9.out.2.2.1, H9.out.2.2.2, ?_, HEl.out.2.2.1, HEl.out.2.2.2.1, fun x hx => ?_⟩, H9.out.1⟩
  · have := HG.out
    rw [HQ.out.1] at this
    exact this
  · rcases mem_ins hx with rfl | hx
    · exact ackP_ok _
    · exact HEl.out.2.2.2.2 x hx
set_option maxRecDepth 20000 in
set_option maxHeartbeats 4000000 in
theorem recv_or {w : World} {E M N E2 M2 N2 : Nat} {s s2 : St} (p : P5) (h x : Int) (hT : Sha.Tab w) (hL : LG w E M N s) (hO : LG w E2 M2 N2 s2) (hx : IntKind.i64.wrap (1 - s.sd) = x) (hfb : fitG s p x = true) (hcl : s.cl = false) (hr : (lk p.s s.ac).isSome = false) (hlt : lateB p h = false) (hk : (lk p.s s2.cm).isSome = true) (hp : p.ok) (hC2 : sumOf p.s s2.cm = sumP p) (hor : s.o = true) (hne2 : (p.s != s.rc) = false) (hk0 : 0 ≤ s.rc) (hk1 : s.rc + 1 < 18446744073709551616) :
    Calls Tryd.prog 9 #[.pointer (some ⟨E, 0, none⟩), pkv p, .int .u64 h, .pointer (some ⟨E2, 0, none⟩)] w fun e w' => e = .returned (.tuple #[.string (Sha.ackS p.d), .int .i64 0]) ∧ LG w' E M N (recO p s) ∧ FrL E M N w w' := by
  have hA := Sha.ack_any p (by have := ((fitG_iff s p x).1 hfb).1.2.2.2; omega)
  have hOf := of_g (Sha.ackS p.d) (by rw [Sha.ackS_size]; decide)
  have hrs : ∀ q : St, q = q := fun _ => rfl
  obtain ⟨A, hAe⟩ : ∃ A, A = Sha.ackS p.d := ⟨_, rfl⟩
  obtain ⟨Q, hQ⟩ : ∃ Q, Q = ackP (Sha.ackS p.d) := ⟨_, rfl⟩
  have hQo : SumOk Q := hQ ▸ ackP_ok _
  rw [← hQ, ← hAe] at hOf
  rw [← hAe] at hA
  have HA := Lib.hid hA
  have HOf := Lib.hid hOf
  have HQ := Lib.hid (And.intro hQ (And.intro hAe hQo))
  clear hA hOf hrs hQ hAe hQo
  obtain ⟨y, hy⟩ : ∃ y, y = s.rc + 1 := ⟨_, rfl⟩
  have hw : IntKind.u64.wrap (s.rc + 1) = y := by rw [hy]; exact IntWalk.u64_in _ ⟨by omega, by omega⟩
  have HX := Lib.hid (And.intro hor hne2)
  have HY := Lib.hid (And.intro hy hw)
  clear hor hne2 hk0 hk1 hy hw
  have HRc := Lib.hid (fun W (hW : LG W E M N s) => hr ▸ received_g p.s hW)
  clear hr
  have HLt := Lib.hid (fun W => hlt ▸ late_g p h W)
  clear hlt
  obtain ⟨b, hb, hne⟩ := neq_sum (sumOf p.s s2.cm) (sumP p) (sumOf_ok hO.cok) (sumP_ok p)
  have hbv : b = true := hb.2 hC2
  rw [hbv] at hne
  have hS := sum_g p ((fitG_iff s p x).1 hfb).1 hp
  have hlk := fun W (hW : LG W E2 M2 N2 s2) => look_g p.s M2 s2.cm W hW.com
  have hC := sumOf_ok (k := p.s) hO.cok
  simp only [hk] at hlk
  generalize sumOf p.s s2.cm = C at *
  generalize sumP p = D at *
  have HNe := Lib.hid hne
  have HS := Lib.hid hS
  clear hne hS hp hb hbv hC2
  have HLk := Lib.hid hlk
  have HC := Lib.hid hC
  clear hlk hC
  have HF := Lib.hid (fun W (hW : LG W E M N s) => hfb ▸ fits_g p x hW)
  have H0 := Lib.hid (PO.new (p := p) hL hO)
  have HEl := Lib.hid (And.intro hL.lt (And.intro hL.en (And.intro hL.mn (And.intro hL.cok hL.aok))))
  have HT := Lib.hid hT
  have HL0 := Lib.hid hL
  clear hfb hL hO hT
  go_enter Tryd.func9, Tryd.ntmps9
  go_upto_region 1 with fail
  refine wp_region_held_drew (S := PO w p E M N s E2 M2 N2 s2) (by kernel_rfl) (PO.drew H0.out) (fun hHeld => ?_)
  refine wpAnyH_take (i := 0) (oi := _) (v := ?_) rfl (by kernel_rfl) (by kernel_rfl) (by kernel_rfl) (fun _ _ _ h => h) (Or.inl ⟨by rfl, ?_⟩) (by assumption) ?_
  rotate_left
  · (intro W hSw; obtain ⟨h0, h1, h2, h3, h4, hf0⟩ := hSw.1.2.1.cells; obtain ⟨e0, e1, e2, e3, e4, e5, e6, e7, e8, hf1⟩ := hSw.1.2.2.cells; go_simp; try with_reducible rfl)
  try simp only [Act.put, List.getElem_toArray, List.getElem_cons_zero, List.setIfInBounds_toArray, List.set_cons_zero, List.set_cons_succ]
  refine wpAnyH_ready (rs := [1]) (by kernel_rfl) (by simp) ?_
  refine AllReadyH.cons rfl (fun K hK => ?_) AllReadyH.nil
  simp only [List.getElem_toArray, List.getElem_cons_succ, List.getElem_cons_zero]
  rw [if_pos (by rfl)]
  go_simp
  (refine (made_g hHeld.1.2.2).mono ?_; rintro e w1 ⟨rfl, hw⟩; obtain rfl := hw.symm; clear hw)
  go_wp2_with fail
  refine hK.out _ _ hHeld (fun hHeld => ?_)
  clear hK K
  try simp only [Act.put, List.getElem_toArray, List.getElem_cons_succ, List.getElem_cons_zero, List.setIfInBounds_toArray, List.set_cons_zero, List.set_cons_succ]
  refine wpAnyH_take (i := 2) (oi := _) (v := ?_) rfl (by kernel_rfl) (by kernel_rfl) (by kernel_rfl) (fun _ _ _ h => h) (Or.inl ⟨by rfl, ?_⟩) (by assumption) ?_
  rotate_left
  · (intro W hSw; obtain ⟨h0, h1, h2, h3, h4, hf0⟩ := hSw.1.2.1.cells; obtain ⟨e0, e1, e2, e3, e4, e5, e6, e7, e8, hf1⟩ := hSw.1.2.2.cells; go_simp; try with_reducible rfl)
  try simp only [Act.put, List.getElem_toArray, List.getElem_cons_succ, List.getElem_cons_zero, List.setIfInBounds_toArray, List.set_cons_zero, List.set_cons_succ]
  refine wpAnyH_take (i := 3) (oi := _) (v := ?_) rfl (by kernel_rfl) (by kernel_rfl) (by kernel_rfl) (fun _ _ _ h => h) (Or.inl ⟨by rfl, ?_⟩) (by assumption) ?_
  rotate_left
  · (intro W hSw; obtain ⟨h0, h1, h2, h3, h4, hf0⟩ := hSw.1.2.1.cells; obtain ⟨e0, e1, e2, e3, e4, e5, e6, e7, e8, hf1⟩ := hSw.1.2.2.cells; go_simp; try with_reducible rfl)
  try simp only [Act.put, List.getElem_toArray, List.getElem_cons_succ, List.getElem_cons_zero, List.setIfInBounds_toArray, List.set_cons_zero, List.set_cons_succ]
  refine wpAnyH_take (i := 4) (oi := _) (v := ?_) rfl (by kernel_rfl) (by kernel_rfl) (by kernel_rfl) (fun _ _ _ h => h) (Or.inl ⟨by rfl, ?_⟩) (by assumption) ?_
  rotate_left
  · (intro W hSw; obtain ⟨h0, h1, h2, h3, h4, hf0⟩ := hSw.1.2.1.cells; obtain ⟨e0, e1, e2, e3, e4, e5, e6, e7, e8, hf1⟩ := hSw.1.2.2.cells; go_simp; try with_reducible rfl)
  try simp only [Act.put, List.getElem_toArray, List.getElem_cons_succ, List.getElem_cons_zero, List.setIfInBounds_toArray, List.set_cons_zero, List.set_cons_succ]
  refine wpAnyH_ready (rs := [5]) (by kernel_rfl) (by simp) ?_
  refine AllReadyH.cons rfl (fun K hK => ?_) AllReadyH.nil
  simp only [List.getElem_toArray, List.getElem_cons_succ, List.getElem_cons_zero]
  rw [if_pos (by rfl)]
  go_simp
  (refine (made_g hHeld.2).mono ?_; rintro e w1 ⟨rfl, hw⟩; obtain rfl := hw.symm; clear hw)
  go_wp2_with fail
  refine hK.out _ _ hHeld (fun hHeld => ?_)
  clear hK K
  try simp only [Act.put, List.getElem_toArray, List.getElem_cons_succ, List.getElem_cons_zero, List.setIfInBounds_toArray, List.set_cons_zero, List.set_cons_succ]
  refine wpAnyH_take (i := 6) (oi := _) (v := ?_) rfl (by kernel_rfl) (by kernel_rfl) (by kernel_rfl) (fun _ _ _ h => h) (Or.inl ⟨by rfl, ?_⟩) (by assumption) ?_
  rotate_left
  · (intro W hSw; obtain ⟨h0, h1, h2, h3, h4, hf0⟩ := hSw.1.2.1.cells; obtain ⟨e0, e1, e2, e3, e4, e5, e6, e7, e8, hf1⟩ := hSw.1.2.2.cells; go_simp; try with_reducible rfl)
  try simp only [Act.put, List.getElem_toArray, List.getElem_cons_succ, List.getElem_cons_zero, List.setIfInBounds_toArray, List.set_cons_zero, List.set_cons_succ]
  refine wpAnyH_take (i := 7) (oi := _) (v := ?_) rfl (by kernel_rfl) (by kernel_rfl) (by kernel_rfl) (fun _ _ _ h => h) (Or.inl ⟨by rfl, ?_⟩) (by assumption) ?_
  rotate_left
  · (intro W hSw; obtain ⟨h0, h1, h2, h3, h4, hf0⟩ := hSw.1.2.1.cells; obtain ⟨e0, e1, e2, e3, e4, e5, e6, e7, e8, hf1⟩ := hSw.1.2.2.cells; go_simp; try with_reducible rfl)
  try simp only [Act.put, List.getElem_toArray, List.getElem_cons_succ, List.getElem_cons_zero, List.setIfInBounds_toArray, List.set_cons_zero, List.set_cons_succ]
  refine wpAnyH_take (i := 8) (oi := _) (v := ?_) rfl (by kernel_rfl) (by kernel_rfl) (by kernel_rfl) (fun _ _ _ h => h) (Or.inl ⟨by rfl, ?_⟩) (by assumption) ?_
  rotate_left
  · (intro W hSw; obtain ⟨h0, h1, h2, h3, h4, hf0⟩ := hSw.1.2.1.cells; obtain ⟨e0, e1, e2, e3, e4, e5, e6, e7, e8, hf1⟩ := hSw.1.2.2.cells; go_simp; try with_reducible rfl)
  try simp only [Act.put, List.getElem_toArray, List.getElem_cons_succ, List.getElem_cons_zero, List.setIfInBounds_toArray, List.set_cons_zero, List.set_cons_succ]
  refine wpAnyH_take (i := 9) (oi := _) (v := ?_) rfl (by kernel_rfl) (by kernel_rfl) (by kernel_rfl) (fun _ _ _ h => h) (Or.inl ⟨by rfl, ?_⟩) (by assumption) ?_
  rotate_left
  · (intro W hSw; obtain ⟨h0, h1, h2, h3, h4, hf0⟩ := hSw.1.2.1.cells; obtain ⟨e0, e1, e2, e3, e4, e5, e6, e7, e8, hf1⟩ := hSw.1.2.2.cells; go_simp; try with_reducible rfl)
  try simp only [Act.put, List.getElem_toArray, List.getElem_cons_succ, List.getElem_cons_zero, List.setIfInBounds_toArray, List.set_cons_zero, List.set_cons_succ]
  refine wpAnyH_take (i := 10) (oi := _) (v := ?_) rfl (by kernel_rfl) (by kernel_rfl) (by kernel_rfl) (fun _ _ _ h => h) (Or.inl ⟨by rfl, ?_⟩) (by assumption) ?_
  rotate_left
  · (intro W hSw; obtain ⟨h0, h1, h2, h3, h4, hf0⟩ := hSw.1.2.1.cells; obtain ⟨e0, e1, e2, e3, e4, e5, e6, e7, e8, hf1⟩ := hSw.1.2.2.cells; go_simp; try with_reducible rfl)
  try simp only [Act.put, List.getElem_toArray, List.getElem_cons_succ, List.getElem_cons_zero, List.setIfInBounds_toArray, List.set_cons_zero, List.set_cons_succ]
  refine wpAnyH_take (i := 11) (oi := _) (v := ?_) rfl (by kernel_rfl) (by kernel_rfl) (by kernel_rfl) (fun _ _ _ h => h) (Or.inl ⟨by rfl, ?_⟩) (by assumption) ?_
  rotate_left
  · (intro W hSw; obtain ⟨h0, h1, h2, h3, h4, hf0⟩ := hSw.1.2.1.cells; obtain ⟨e0, e1, e2, e3, e4, e5, e6, e7, e8, hf1⟩ := hSw.1.2.2.cells; go_simp; try with_reducible rfl)
  try simp only [Act.put, List.getElem_toArray, List.getElem_cons_succ, List.getElem_cons_zero, List.setIfInBounds_toArray, List.set_cons_zero, List.set_cons_succ]
  refine wpAnyH_take (i := 12) (oi := _) (v := ?_) rfl (by kernel_rfl) (by kernel_rfl) (by kernel_rfl) (fun _ _ _ h => h) (Or.inl ⟨by rfl, ?_⟩) (by assumption) ?_
  rotate_left
  · (intro W hSw; obtain ⟨h0, h1, h2, h3, h4, hf0⟩ := hSw.1.2.1.cells; obtain ⟨e0, e1, e2, e3, e4, e5, e6, e7, e8, hf1⟩ := hSw.1.2.2.cells; go_simp; try with_reducible rfl)
  try simp only [Act.put, List.getElem_toArray, List.getElem_cons_succ, List.getElem_cons_zero, List.setIfInBounds_toArray, List.set_cons_zero, List.set_cons_succ]
  refine wpAnyH_take (i := 13) (oi := _) (v := ?_) rfl (by kernel_rfl) (by kernel_rfl) (by kernel_rfl) (fun _ _ _ h => h) (Or.inl ⟨by rfl, ?_⟩) (by assumption) ?_
  rotate_left
  · (intro W hSw; obtain ⟨h0, h1, h2, h3, h4, hf0⟩ := hSw.1.2.1.cells; obtain ⟨e0, e1, e2, e3, e4, e5, e6, e7, e8, hf1⟩ := hSw.1.2.2.cells; go_simp; try with_reducible rfl)
  try simp only [Act.put, List.getElem_toArray, List.getElem_cons_succ, List.getElem_cons_zero, List.setIfInBounds_toArray, List.set_cons_zero, List.set_cons_succ]
  refine wpAnyH_take (i := 14) (oi := _) (v := ?_) rfl (by kernel_rfl) (by kernel_rfl) (by kernel_rfl) (fun _ _ _ h => h) (Or.inl ⟨by rfl, ?_⟩) (by assumption) ?_
  rotate_left
  · (intro W hSw; obtain ⟨h0, h1, h2, h3, h4, hf0⟩ := hSw.1.2.1.cells; obtain ⟨e0, e1, e2, e3, e4, e5, e6, e7, e8, hf1⟩ := hSw.1.2.2.cells; go_simp; try with_reducible rfl)
  try simp only [Act.put, List.getElem_toArray, List.getElem_cons_succ, List.getElem_cons_zero, List.setIfInBounds_toArray, List.set_cons_zero, List.set_cons_succ]
  refine wpAnyH_take (i := 15) (oi := _) (v := ?_) rfl (by kernel_rfl) (by kernel_rfl) (by kernel_rfl) (fun _ _ _ h => h) (Or.inl ⟨by rfl, ?_⟩) (by assumption) ?_
  rotate_left
  · (intro W hSw; obtain ⟨h0, h1, h2, h3, h4, hf0⟩ := hSw.1.2.1.cells; obtain ⟨e0, e1, e2, e3, e4, e5, e6, e7, e8, hf1⟩ := hSw.1.2.2.cells; go_simp; try with_reducible rfl)
  try simp only [Act.put, List.getElem_toArray, List.getElem_cons_succ, List.getElem_cons_zero, List.setIfInBounds_toArray, List.set_cons_zero, List.set_cons_succ]
  refine wpAnyH_ready (rs := [16]) (by kernel_rfl) (by simp) ?_
  refine AllReadyH.cons rfl (fun K hK => ?_) AllReadyH.nil
  simp only [List.getElem_toArray, List.getElem_cons_succ, List.getElem_cons_zero]
  rw [if_pos (by rfl)]
  go_simp
  (refine (HF.out _ hHeld.1.2.2).mono ?_; rintro e w1 ⟨rfl, hb1⟩)
  go_wp2_with fail
  refine hK.out _ _ (PO.call hHeld hb1) (fun hHeld => ?_)
  clear hK K
  try simp only [Act.put, List.getElem_toArray, List.getElem_cons_succ, List.getElem_cons_zero, List.setIfInBounds_toArray, List.set_cons_zero, List.set_cons_succ]
  refine wpAnyH_take (i := 17) (oi := _) (v := ?_) rfl (by kernel_rfl) (by kernel_rfl) (by kernel_rfl) (fun _ _ _ h => h) (Or.inl ⟨by rfl, ?_⟩) (by assumption) ?_
  rotate_left
  · (intro W hSw; obtain ⟨h0, h1, h2, h3, h4, hf0⟩ := hSw.1.2.1.cells; obtain ⟨e0, e1, e2, e3, e4, e5, e6, e7, e8, hf1⟩ := hSw.1.2.2.cells; go_simp; try with_reducible rfl)
  try simp only [Act.put, List.getElem_toArray, List.getElem_cons_succ, List.getElem_cons_zero, List.setIfInBounds_toArray, List.set_cons_zero, List.set_cons_succ]
  refine wpAnyH_take (i := 18) (oi := _) (v := ?_) rfl (by kernel_rfl) (by kernel_rfl) (by kernel_rfl) (fun _ _ _ h => h) (Or.inl ⟨by rfl, ?_⟩) (by assumption) ?_
  rotate_left
  · (intro W hSw; obtain ⟨h0, h1, h2, h3, h4, hf0⟩ := hSw.1.2.1.cells; obtain ⟨e0, e1, e2, e3, e4, e5, e6, e7, e8, hf1⟩ := hSw.1.2.2.cells; go_simp; try with_reducible rfl)
  try simp only [Act.put, List.getElem_toArray, List.getElem_cons_succ, List.getElem_cons_zero, List.setIfInBounds_toArray, List.set_cons_zero, List.set_cons_succ]
  refine wpAnyH_done (by kernel_rfl) ?_ _
  have H1 := Lib.hid hHeld
  clear hHeld H0 hb1
  go_upto_region 3 with fail
  refine wp_region_held_drew (S := PO w p E M N s E2 M2 N2 s2) (by kernel_rfl) (PO.drew H1.out) (fun hHeld => ?_)
  refine wpAnyH_take (i := 0) (oi := _) (v := ?_) rfl (by kernel_rfl) (by kernel_rfl) (by kernel_rfl) (fun _ _ _ h => h) (Or.inl ⟨by rfl, ?_⟩) (by assumption) ?_
  rotate_left
  · (intro W hSw; obtain ⟨h0, h1, h2, h3, h4, hf0⟩ := hSw.1.2.1.cells; obtain ⟨e0, e1, e2, e3, e4, e5, e6, e7, e8, hf1⟩ := hSw.2.cells; have hlk := HLk.out _ hSw.2; go_simp; try with_reducible rfl)
  try simp only [Act.put, List.getElem_toArray, List.getElem_cons_zero, List.setIfInBounds_toArray, List.set_cons_zero, List.set_cons_succ]
  refine wpAnyH_take (i := 1) (oi := _) (v := ?_) rfl (by kernel_rfl) (by kernel_rfl) (by kernel_rfl) (fun _ _ _ h => h) (Or.inl ⟨by rfl, ?_⟩) (by assumption) ?_
  rotate_left
  · (intro W hSw; obtain ⟨h0, h1, h2, h3, h4, hf0⟩ := hSw.1.2.1.cells; obtain ⟨e0, e1, e2, e3, e4, e5, e6, e7, e8, hf1⟩ := hSw.2.cells; have hlk := HLk.out _ hSw.2; go_simp; try with_reducible rfl)
  try simp only [Act.put, List.getElem_toArray, List.getElem_cons_succ, List.getElem_cons_zero, List.setIfInBounds_toArray, List.set_cons_zero, List.set_cons_succ]
  refine wpAnyH_take (i := 2) (oi := _) (v := ?_) rfl (by kernel_rfl) (by kernel_rfl) (by kernel_rfl) (fun _ _ _ h => h) (Or.inl ⟨by rfl, ?_⟩) (by assumption) ?_
  rotate_left
  · (intro W hSw; obtain ⟨h0, h1, h2, h3, h4, hf0⟩ := hSw.1.2.1.cells; obtain ⟨e0, e1, e2, e3, e4, e5, e6, e7, e8, hf1⟩ := hSw.2.cells; have hlk := HLk.out _ hSw.2; go_simp; try with_reducible rfl)
  try simp only [Act.put, List.getElem_toArray, List.getElem_cons_succ, List.getElem_cons_zero, List.setIfInBounds_toArray, List.set_cons_zero, List.set_cons_succ]
  refine wpAnyH_take (i := 3) (oi := _) (v := ?_) rfl (by kernel_rfl) (by kernel_rfl) (by kernel_rfl) (fun _ _ _ h => h) (Or.inl ⟨by rfl, ?_⟩) (by assumption) ?_
  rotate_left
  · (intro W hSw; obtain ⟨h0, h1, h2, h3, h4, hf0⟩ := hSw.1.2.1.cells; obtain ⟨e0, e1, e2, e3, e4, e5, e6, e7, e8, hf1⟩ := hSw.2.cells; have hlk := HLk.out _ hSw.2; go_simp; try with_reducible rfl)
  try simp only [Act.put, List.getElem_toArray, List.getElem_cons_succ, List.getElem_cons_zero, List.setIfInBounds_toArray, List.set_cons_zero, List.set_cons_succ]
  refine wpAnyH_take (i := 4) (oi := _) (v := ?_) rfl (by kernel_rfl) (by kernel_rfl) (by kernel_rfl) (fun _ _ _ h => h) (Or.inl ⟨by rfl, ?_⟩) (by assumption) ?_
  rotate_left
  · (intro W hSw; obtain ⟨h0, h1, h2, h3, h4, hf0⟩ := hSw.1.2.1.cells; obtain ⟨e0, e1, e2, e3, e4, e5, e6, e7, e8, hf1⟩ := hSw.2.cells; have hlk := HLk.out _ hSw.2; go_simp; try with_reducible rfl)
  try simp only [Act.put, List.getElem_toArray, List.getElem_cons_succ, List.getElem_cons_zero, List.setIfInBounds_toArray, List.set_cons_zero, List.set_cons_succ]
  refine wpAnyH_take (i := 5) (oi := _) (v := ?_) rfl (by kernel_rfl) (by kernel_rfl) (by kernel_rfl) (fun _ _ _ h => h) (Or.inl ⟨by rfl, ?_⟩) (by assumption) ?_
  rotate_left
  · (intro W hSw; obtain ⟨h0, h1, h2, h3, h4, hf0⟩ := hSw.1.2.1.cells; obtain ⟨e0, e1, e2, e3, e4, e5, e6, e7, e8, hf1⟩ := hSw.2.cells; have hlk := HLk.out _ hSw.2; go_simp; try with_reducible rfl)
  try simp only [Act.put, List.getElem_toArray, List.getElem_cons_succ, List.getElem_cons_zero, List.setIfInBounds_toArray, List.set_cons_zero, List.set_cons_succ]
  refine wpAnyH_take (i := 6) (oi := _) (v := ?_) rfl (by kernel_rfl) (by kernel_rfl) (by kernel_rfl) (fun _ _ _ h => h) (Or.inl ⟨by rfl, ?_⟩) (by assumption) ?_
  rotate_left
  · (intro W hSw; obtain ⟨h0, h1, h2, h3, h4, hf0⟩ := hSw.1.2.1.cells; obtain ⟨e0, e1, e2, e3, e4, e5, e6, e7, e8, hf1⟩ := hSw.2.cells; have hlk := HLk.out _ hSw.2; go_simp; try with_reducible rfl)
  try simp only [Act.put, List.getElem_toArray, List.getElem_cons_succ, List.getElem_cons_zero, List.setIfInBounds_toArray, List.set_cons_zero, List.set_cons_succ]
  refine wpAnyH_take (i := 7) (oi := _) (v := ?_) rfl (by kernel_rfl) (by kernel_rfl) (by kernel_rfl) (fun _ _ _ h => h) (Or.inl ⟨by rfl, ?_⟩) (by assumption) ?_
  rotate_left
  · (intro W hSw; obtain ⟨h0, h1, h2, h3, h4, hf0⟩ := hSw.1.2.1.cells; obtain ⟨e0, e1, e2, e3, e4, e5, e6, e7, e8, hf1⟩ := hSw.2.cells; have hlk := HLk.out _ hSw.2; go_simp; try with_reducible rfl)
  try simp only [Act.put, List.getElem_toArray, List.getElem_cons_succ, List.getElem_cons_zero, List.setIfInBounds_toArray, List.set_cons_zero, List.set_cons_succ]
  refine wpAnyH_take (i := 8) (oi := _) (v := ?_) rfl (by kernel_rfl) (by kernel_rfl) (by kernel_rfl) (fun _ _ _ h => h) (Or.inl ⟨by rfl, ?_⟩) (by assumption) ?_
  rotate_left
  · (intro W hSw; obtain ⟨h0, h1, h2, h3, h4, hf0⟩ := hSw.1.2.1.cells; obtain ⟨e0, e1, e2, e3, e4, e5, e6, e7, e8, hf1⟩ := hSw.2.cells; have hlk := HLk.out _ hSw.2; go_simp; try with_reducible rfl)
  try simp only [Act.put, List.getElem_toArray, List.getElem_cons_succ, List.getElem_cons_zero, List.setIfInBounds_toArray, List.set_cons_zero, List.set_cons_succ]
  refine wpAnyH_take (i := 9) (oi := _) (v := ?_) rfl (by kernel_rfl) (by kernel_rfl) (by kernel_rfl) (fun _ _ _ h => h) (Or.inl ⟨by rfl, ?_⟩) (by assumption) ?_
  rotate_left
  · (intro W hSw; obtain ⟨h0, h1, h2, h3, h4, hf0⟩ := hSw.1.2.1.cells; obtain ⟨e0, e1, e2, e3, e4, e5, e6, e7, e8, hf1⟩ := hSw.2.cells; have hlk := HLk.out _ hSw.2; go_simp; try with_reducible rfl)
  try simp only [Act.put, List.getElem_toArray, List.getElem_cons_succ, List.getElem_cons_zero, List.setIfInBounds_toArray, List.set_cons_zero, List.set_cons_succ]
  refine wpAnyH_ready (rs := [10]) (by kernel_rfl) (by simp) ?_
  refine AllReadyH.cons rfl (fun K hK => ?_) AllReadyH.nil
  simp only [List.getElem_toArray, List.getElem_cons_succ, List.getElem_cons_zero]
  rw [if_pos (by rfl)]
  go_simp
  refine hK.out _ _ (PO.call hHeld ((Below.refl _ _).alloc (Nat.le_refl _) _)) (fun hHeld => ?_)
  clear hK K
  try simp only [Act.put, List.getElem_toArray, List.getElem_cons_succ, List.getElem_cons_zero, List.setIfInBounds_toArray, List.set_cons_zero, List.set_cons_succ]
  have hst : (storeCells ⟨w1.heap.size, 0, none⟩ C.toList).run Tryd.prog (w1.alloc (.cells #[.int .u8 0, .int .u8 0, .int .u8 0, .int .u8 0, .int .u8 0, .int .u8 0, .int .u8 0, .int .u8 0, .int .u8 0, .int .u8 0, .int .u8 0, .int .u8 0, .int .u8 0, .int .u8 0, .int .u8 0, .int .u8 0, .int .u8 0, .int .u8 0, .int .u8 0, .int .u8 0, .int .u8 0, .int .u8 0, .int .u8 0, .int .u8 0, .int .u8 0, .int .u8 0, .int .u8 0, .int .u8 0, .int .u8 0, .int .u8 0, .int .u8 0, .int .u8 0] TSm)).drew = .ok () (w1.alloc (.cells C TSm)).drew := run_storeCells_new (P := Tryd.prog) w1.drew TSm #[.int .u8 0, .int .u8 0, .int .u8 0, .int .u8 0, .int .u8 0, .int .u8 0, .int .u8 0, .int .u8 0, .int .u8 0, .int .u8 0, .int .u8 0, .int .u8 0, .int .u8 0, .int .u8 0, .int .u8 0, .int .u8 0, .int .u8 0, .int .u8 0, .int .u8 0, .int .u8 0, .int .u8 0, .int .u8 0, .int .u8 0, .int .u8 0, .int .u8 0, .int .u8 0, .int .u8 0, .int .u8 0, .int .u8 0, .int .u8 0, .int .u8 0, .int .u8 0] C (i32 C HC.out.1) (by rw [HC.out.1]; rfl) HC.out.2.1
  have hCz := HC.out.1
  refine wpAnyH_ready (rs := [11]) (by kernel_rfl) (by simp) ?_
  refine AllReadyH.cons rfl (fun K hK => ?_) AllReadyH.nil
  simp only [List.getElem_toArray, List.getElem_cons_succ, List.getElem_cons_zero]
  rw [if_pos (by rfl)]
  go_simp
  refine hK.out _ _ (PO.call (PO.drew H1.out) ((Below.refl _ _).alloc (Nat.le_refl _) _)) (fun hHeld => ?_)
  clear hK K
  try simp only [Act.put, List.getElem_toArray, List.getElem_cons_succ, List.getElem_cons_zero, List.setIfInBounds_toArray, List.set_cons_zero, List.set_cons_succ]
  refine wpAnyH_take (i := 12) (oi := _) (v := ?_) rfl (by kernel_rfl) (by kernel_rfl) (by kernel_rfl) (fun _ _ _ h => h) (Or.inl ⟨by rfl, ?_⟩) (by assumption) ?_
  rotate_left
  · (intro W hSw; obtain ⟨h0, h1, h2, h3, h4, hf0⟩ := hSw.1.2.1.cells; obtain ⟨e0, e1, e2, e3, e4, e5, e6, e7, e8, hf1⟩ := hSw.2.cells; have hlk := HLk.out _ hSw.2; go_simp; try with_reducible rfl)
  try simp only [Act.put, List.getElem_toArray, List.getElem_cons_succ, List.getElem_cons_zero, List.setIfInBounds_toArray, List.set_cons_zero, List.set_cons_succ]
  refine wpAnyH_done (by kernel_rfl) ?_ _
  have H3 : Hid (PO w p E M N s E2 M2 N2 s2 ((w1.alloc (.cells C TSm)).drew) ∧ (w1.alloc (.cells C TSm)).drew.heap[w1.heap.size]? = some (.cells C TSm (0, 0))) := Lib.hid ⟨hHeld, heap_alloc_new w1.drew _⟩
  obtain ⟨w3, hw3⟩ : ∃ X, X = (w1.alloc (.cells C TSm)).drew := ⟨_, rfl⟩
  obtain ⟨G, hG⟩ : ∃ X, X = w1.heap.size := ⟨_, rfl⟩
  rw [← hw3] at H3 ⊢
  rw [← hG] at H3 ⊢
  clear hw3 hG hst hHeld H1
  obtain ⟨h0, h1, h2, h3, h4, hf0⟩ := H3.out.1.1.2.1.cells
  obtain ⟨e0, e1, e2, e3, e4, e5, e6, e7, e8, hf1⟩ := H3.out.1.1.2.2.cells
  go_wp2_with fail
  refine (HRc.out _ H3.out.1.1.2.2).mono ?_
  rintro _ w4 ⟨rfl, b4⟩
  have H4 : Hid (PO w p E M N s E2 M2 N2 s2 w4 ∧ w4.heap[G]? = some (.cells C TSm (0, 0))) := Lib.hid ⟨PO.call H3.out.1 b4, (b4.block _ (lt_of H3.out.2)).trans H3.out.2⟩
  clear h0 h1 h2 h3 h4 hf0 e0 e1 e2 e3 e4 e5 e6 e7 e8 hf1 b4 H3
  obtain ⟨h0, h1, h2, h3, h4, hf0⟩ := H4.out.1.1.2.1.cells
  obtain ⟨e0, e1, e2, e3, e4, e5, e6, e7, e8, hf1⟩ := H4.out.1.1.2.2.cells
  go_wp2_with fail
  refine (HLt.out _).mono ?_
  rintro _ w5 ⟨rfl, b5⟩
  have H5 : Hid (PO w p E M N s E2 M2 N2 s2 w5 ∧ w5.heap[G]? = some (.cells C TSm (0, 0))) := Lib.hid ⟨PO.call H4.out.1 b5, (b5.block _ (lt_of H4.out.2)).trans H4.out.2⟩
  clear h0 h1 h2 h3 h4 hf0 e0 e1 e2 e3 e4 e5 e6 e7 e8 hf1 b5 H4
  obtain ⟨h0, h1, h2, h3, h4, hf0⟩ := H5.out.1.1.2.1.cells
  obtain ⟨e0, e1, e2, e3, e4, e5, e6, e7, e8, hf1⟩ := H5.out.1.1.2.2.cells
  go_upto_region 8 with fail
  clear h0 h1 h2 h3 h4 hf0 e0 e1 e2 e3 e4 e5 e6 e7 e8 hf1
  refine wp_region_held_drew (S := fun W => PO w p E M N s E2 M2 N2 s2 W ∧ W.heap[G]? = some (.cells C TSm (0, 0))) (by kernel_rfl) ⟨PO.drew H5.out.1, H5.out.2⟩ (fun hHeld => ?_)
  refine wpAnyH_take (i := 0) (oi := _) (v := ?_) rfl (by kernel_rfl) (by kernel_rfl) (by kernel_rfl) (fun _ _ _ h => h) (Or.inl ⟨by rfl, ?_⟩) (by assumption) ?_
  rotate_left
  · (intro W hSw; (refine Sha.yields_row TSm (.tmp 10) ?_ G ?_ TSm C (0, 0) _ hSw.2 Tryd.underlying55 rfl (i32 C HC.out.1)); rfl; rfl)
  try simp only [Act.put, List.getElem_toArray, List.getElem_cons_zero, List.setIfInBounds_toArray, List.set_cons_zero, List.set_cons_succ]
  refine wpAnyH_take (i := 1) (oi := _) (v := ?_) rfl (by kernel_rfl) (by kernel_rfl) (by kernel_rfl) (fun _ _ _ h => h) (Or.inl ⟨by rfl, ?_⟩) (by assumption) ?_
  rotate_left
  · (intro W hSw; obtain ⟨h0, h1, h2, h3, h4, hf0⟩ := hSw.1.1.2.1.cells; go_simp; try with_reducible rfl)
  try simp only [Act.put, List.getElem_toArray, List.getElem_cons_succ, List.getElem_cons_zero, List.setIfInBounds_toArray, List.set_cons_zero, List.set_cons_succ]
  refine wpAnyH_ready (rs := [2]) (by kernel_rfl) (by simp) ?_
  refine AllReadyH.cons rfl (fun K hK => ?_) AllReadyH.nil
  simp only [List.getElem_toArray, List.getElem_cons_succ, List.getElem_cons_zero]
  rw [if_pos (by rfl)]
  go_simp
  (refine (HS.out _ (Sha.tab_below HT.out hHeld.1.1.1)).mono ?_; rintro e w6 ⟨rfl, hb6⟩)
  go_wp2_with fail
  refine hK.out _ _ ⟨PO.call hHeld.1 hb6, (hb6.block _ (lt_of hHeld.2)).trans hHeld.2⟩ (fun hHeld => ?_)
  clear hK K
  try simp only [Act.put, List.getElem_toArray, List.getElem_cons_succ, List.getElem_cons_zero, List.setIfInBounds_toArray, List.set_cons_zero, List.set_cons_succ]
  have hneq := HNe.out
  refine wpAnyH_take (i := 3) (oi := _) (v := ?_) rfl (by kernel_rfl) (by kernel_rfl) (by kernel_rfl) (fun _ _ _ h => h) (Or.inl ⟨by rfl, ?_⟩) (by assumption) ?_
  rotate_left
  · (intro W hSw; obtain ⟨h0, h1, h2, h3, h4, hf0⟩ := hSw.1.1.2.1.cells; go_simp; try with_reducible rfl)
  try simp only [Act.put, List.getElem_toArray, List.getElem_cons_succ, List.getElem_cons_zero, List.setIfInBounds_toArray, List.set_cons_zero, List.set_cons_succ]
  refine wpAnyH_take (i := 4) (oi := _) (v := ?_) rfl (by kernel_rfl) (by kernel_rfl) (by kernel_rfl) (fun _ _ _ h => h) (Or.inl ⟨by rfl, ?_⟩) (by assumption) ?_
  rotate_left
  · (intro W hSw; obtain ⟨h0, h1, h2, h3, h4, hf0⟩ := hSw.1.1.2.1.cells; go_simp; try with_reducible rfl)
  try simp only [Act.put, List.getElem_toArray, List.getElem_cons_succ, List.getElem_cons_zero, List.setIfInBounds_toArray, List.set_cons_zero, List.set_cons_succ]
  refine wpAnyH_done (by kernel_rfl) ?_ _
  have H6 := Lib.hid hHeld.1
  clear hHeld hneq hb6 H5
  obtain ⟨hor, hne2⟩ := HX.out
  go_upto_region 9 with fail
  refine wp_region_held_drew (S := PO w p E M N s E2 M2 N2 s2) (by kernel_rfl) (PO.drew H6.out) (fun hHeld => ?_)
  refine wpAnyH_take (i := 0) (oi := _) (v := ?_) rfl (by kernel_rfl) (by kernel_rfl) (by kernel_rfl) (fun _ _ _ h => h) (Or.inl ⟨by rfl, ?_⟩) (by assumption) ?_
  rotate_left
  · (intro W hSw; obtain ⟨h0, h1, h2, h3, h4, hf0⟩ := hSw.1.2.1.cells; obtain ⟨e0, e1, e2, e3, e4, e5, e6, e7, e8, hf1⟩ := hSw.1.2.2.cells; go_simp; try with_reducible rfl)
  try simp only [Act.put, List.getElem_toArray, List.getElem_cons_zero, List.setIfInBounds_toArray, List.set_cons_zero, List.set_cons_succ]
  refine wpAnyH_take (i := 1) (oi := _) (v := ?_) rfl (by kernel_rfl) (by kernel_rfl) (by kernel_rfl) (fun _ _ _ h => h) (Or.inl ⟨by rfl, ?_⟩) (by assumption) ?_
  rotate_left
  · (intro W hSw; obtain ⟨h0, h1, h2, h3, h4, hf0⟩ := hSw.1.2.1.cells; obtain ⟨e0, e1, e2, e3, e4, e5, e6, e7, e8, hf1⟩ := hSw.1.2.2.cells; go_simp; try with_reducible rfl)
  try simp only [Act.put, List.getElem_toArray, List.getElem_cons_succ, List.getElem_cons_zero, List.setIfInBounds_toArray, List.set_cons_zero, List.set_cons_succ]
  refine wpAnyH_take (i := 2) (oi := _) (v := ?_) rfl (by kernel_rfl) (by kernel_rfl) (by kernel_rfl) (fun _ _ _ h => h) (Or.inl ⟨by rfl, ?_⟩) (by assumption) ?_
  rotate_left
  · (intro W hSw; obtain ⟨h0, h1, h2, h3, h4, hf0⟩ := hSw.1.2.1.cells; obtain ⟨e0, e1, e2, e3, e4, e5, e6, e7, e8, hf1⟩ := hSw.1.2.2.cells; go_simp; try with_reducible rfl)
  try simp only [Act.put, List.getElem_toArray, List.getElem_cons_succ, List.getElem_cons_zero, List.setIfInBounds_toArray, List.set_cons_zero, List.set_cons_succ]
  refine wpAnyH_take (i := 3) (oi := _) (v := ?_) rfl (by kernel_rfl) (by kernel_rfl) (by kernel_rfl) (fun _ _ _ h => h) (Or.inl ⟨by rfl, ?_⟩) (by assumption) ?_
  rotate_left
  · (intro W hSw; obtain ⟨h0, h1, h2, h3, h4, hf0⟩ := hSw.1.2.1.cells; obtain ⟨e0, e1, e2, e3, e4, e5, e6, e7, e8, hf1⟩ := hSw.1.2.2.cells; go_simp; try with_reducible rfl)
  try simp only [Act.put, List.getElem_toArray, List.getElem_cons_succ, List.getElem_cons_zero, List.setIfInBounds_toArray, List.set_cons_zero, List.set_cons_succ]
  refine wpAnyH_take (i := 4) (oi := _) (v := ?_) rfl (by kernel_rfl) (by kernel_rfl) (by kernel_rfl) (fun _ _ _ h => h) (Or.inl ⟨by rfl, ?_⟩) (by assumption) ?_
  rotate_left
  · (intro W hSw; obtain ⟨h0, h1, h2, h3, h4, hf0⟩ := hSw.1.2.1.cells; obtain ⟨e0, e1, e2, e3, e4, e5, e6, e7, e8, hf1⟩ := hSw.1.2.2.cells; go_simp; try with_reducible rfl)
  try simp only [Act.put, List.getElem_toArray, List.getElem_cons_succ, List.getElem_cons_zero, List.setIfInBounds_toArray, List.set_cons_zero, List.set_cons_succ]
  refine wpAnyH_take (i := 5) (oi := _) (v := ?_) rfl (by kernel_rfl) (by kernel_rfl) (by kernel_rfl) (fun _ _ _ h => h) (Or.inl ⟨by rfl, ?_⟩) (by assumption) ?_
  rotate_left
  · (intro W hSw; obtain ⟨h0, h1, h2, h3, h4, hf0⟩ := hSw.1.2.1.cells; obtain ⟨e0, e1, e2, e3, e4, e5, e6, e7, e8, hf1⟩ := hSw.1.2.2.cells; go_simp; try with_reducible rfl)
  try simp only [Act.put, List.getElem_toArray, List.getElem_cons_succ, List.getElem_cons_zero, List.setIfInBounds_toArray, List.set_cons_zero, List.set_cons_succ]
  refine wpAnyH_take (i := 6) (oi := _) (v := ?_) rfl (by kernel_rfl) (by kernel_rfl) (by kernel_rfl) (fun _ _ _ h => h) (Or.inl ⟨by rfl, ?_⟩) (by assumption) ?_
  rotate_left
  · (intro W hSw; obtain ⟨h0, h1, h2, h3, h4, hf0⟩ := hSw.1.2.1.cells; obtain ⟨e0, e1, e2, e3, e4, e5, e6, e7, e8, hf1⟩ := hSw.1.2.2.cells; go_simp; try with_reducible rfl)
  try simp only [Act.put, List.getElem_toArray, List.getElem_cons_succ, List.getElem_cons_zero, List.setIfInBounds_toArray, List.set_cons_zero, List.set_cons_succ]
  refine wpAnyH_take (i := 7) (oi := _) (v := ?_) rfl (by kernel_rfl) (by kernel_rfl) (by kernel_rfl) (fun _ _ _ h => h) (Or.inl ⟨by rfl, ?_⟩) (by assumption) ?_
  rotate_left
  · (intro W hSw; obtain ⟨h0, h1, h2, h3, h4, hf0⟩ := hSw.1.2.1.cells; obtain ⟨e0, e1, e2, e3, e4, e5, e6, e7, e8, hf1⟩ := hSw.1.2.2.cells; go_simp; try with_reducible rfl)
  try simp only [Act.put, List.getElem_toArray, List.getElem_cons_succ, List.getElem_cons_zero, List.setIfInBounds_toArray, List.set_cons_zero, List.set_cons_succ]
  refine wpAnyH_take (i := 8) (oi := _) (v := ?_) rfl (by kernel_rfl) (by kernel_rfl) (by kernel_rfl) (fun _ _ _ h => h) (Or.inl ⟨by rfl, ?_⟩) (by assumption) ?_
  rotate_left
  · (intro W hSw; obtain ⟨h0, h1, h2, h3, h4, hf0⟩ := hSw.1.2.1.cells; obtain ⟨e0, e1, e2, e3, e4, e5, e6, e7, e8, hf1⟩ := hSw.1.2.2.cells; go_simp; try with_reducible rfl)
  try simp only [Act.put, List.getElem_toArray, List.getElem_cons_succ, List.getElem_cons_zero, List.setIfInBounds_toArray, List.set_cons_zero, List.set_cons_succ]
  refine wpAnyH_take (i := 9) (oi := _) (v := ?_) rfl (by kernel_rfl) (by kernel_rfl) (by kernel_rfl) (fun _ _ _ h => h) (Or.inl ⟨by rfl, ?_⟩) (by assumption) ?_
  rotate_left
  · (intro W hSw; obtain ⟨h0, h1, h2, h3, h4, hf0⟩ := hSw.1.2.1.cells; obtain ⟨e0, e1, e2, e3, e4, e5, e6, e7, e8, hf1⟩ := hSw.1.2.2.cells; go_simp; try with_reducible rfl)
  try simp only [Act.put, List.getElem_toArray, List.getElem_cons_succ, List.getElem_cons_zero, List.setIfInBounds_toArray, List.set_cons_zero, List.set_cons_succ]
  refine wpAnyH_take (i := 10) (oi := _) (v := ?_) rfl (by kernel_rfl) (by kernel_rfl) (by kernel_rfl) (fun _ _ _ h => h) (Or.inl ⟨by rfl, ?_⟩) (by assumption) ?_
  rotate_left
  · (intro W hSw; obtain ⟨h0, h1, h2, h3, h4, hf0⟩ := hSw.1.2.1.cells; obtain ⟨e0, e1, e2, e3, e4, e5, e6, e7, e8, hf1⟩ := hSw.1.2.2.cells; go_simp; try with_reducible rfl)
  try simp only [Act.put, List.getElem_toArray, List.getElem_cons_succ, List.getElem_cons_zero, List.setIfInBounds_toArray, List.set_cons_zero, List.set_cons_succ]
  refine wpAnyH_take (i := 11) (oi := _) (v := ?_) rfl (by kernel_rfl) (by kernel_rfl) (by kernel_rfl) (fun _ _ _ h => h) (Or.inl ⟨by rfl, ?_⟩) (by assumption) ?_
  rotate_left
  · (intro W hSw; obtain ⟨h0, h1, h2, h3, h4, hf0⟩ := hSw.1.2.1.cells; obtain ⟨e0, e1, e2, e3, e4, e5, e6, e7, e8, hf1⟩ := hSw.1.2.2.cells; go_simp; try with_reducible rfl)
  try simp only [Act.put, List.getElem_toArray, List.getElem_cons_succ, List.getElem_cons_zero, List.setIfInBounds_toArray, List.set_cons_zero, List.set_cons_succ]
  refine wpAnyH_take (i := 12) (oi := _) (v := ?_) rfl (by kernel_rfl) (by kernel_rfl) (by kernel_rfl) (fun _ _ _ h => h) (Or.inl ⟨by rfl, ?_⟩) (by assumption) ?_
  rotate_left
  · (intro W hSw; obtain ⟨h0, h1, h2, h3, h4, hf0⟩ := hSw.1.2.1.cells; obtain ⟨e0, e1, e2, e3, e4, e5, e6, e7, e8, hf1⟩ := hSw.1.2.2.cells; go_simp; try with_reducible rfl)
  try simp only [Act.put, List.getElem_toArray, List.getElem_cons_succ, List.getElem_cons_zero, List.setIfInBounds_toArray, List.set_cons_zero, List.set_cons_succ]
  refine wpAnyH_take (i := 13) (oi := _) (v := ?_) rfl (by kernel_rfl) (by kernel_rfl) (by kernel_rfl) (fun _ _ _ h => h) (Or.inl ⟨by rfl, ?_⟩) (by assumption) ?_
  rotate_left
  · (intro W hSw; obtain ⟨h0, h1, h2, h3, h4, hf0⟩ := hSw.1.2.1.cells; obtain ⟨e0, e1, e2, e3, e4, e5, e6, e7, e8, hf1⟩ := hSw.1.2.2.cells; go_simp; try with_reducible rfl)
  try simp only [Act.put, List.getElem_toArray, List.getElem_cons_succ, List.getElem_cons_zero, List.setIfInBounds_toArray, List.set_cons_zero, List.set_cons_succ]
  refine wpAnyH_done (by kernel_rfl) ?_ _
  have H7 := Lib.hid (PO.drew H6.out)
  clear hHeld H6
  obtain ⟨w7, hw7⟩ : ∃ X, X = w6.drew := ⟨_, rfl⟩
  rw [← hw7] at H7 ⊢
  clear hw7
  obtain ⟨h0, h1, h2, h3, h4, hf0⟩ := H7.out.1.2.1.cells
  obtain ⟨e0, e1, e2, e3, e4, e5, e6, e7, e8, hf1⟩ := H7.out.1.2.2.cells
  have hw := HY.out.2
  go_upto_region 17 with fail
  clear h0 h1 h2 h3 h4 hf0 e0 e1 e2 e3 e4 e5 e6 e7 e8 hf1 hor hne2 hw
  have ho := onB_setCell w7 E 5 (.int .u64 y)
  have hE := HEl.out
  have hl8 : LG (w7.setCell ⟨E, 5, none⟩ (.int .u64 y)) E M N { s with rc := s.rc + 1 } := by
    refine ⟨?_, H7.out.1.2.2.com.of_eq (ho.block _ H7.out.1.2.2.em.symm), H7.out.1.2.2.ack.of_eq (ho.block _ hE.2.1.symm), hE.2.2.1, hE.2.2.2.1, hE.2.2.2.2⟩
    have := set_at (i := 5) (.int .u64 y) H7.out.1.2.2.box
    rw [HY.out.1] at this
    rw [HY.out.1]
    exact this
  have hfr : FrL E M N w (w7.setCell ⟨E, 5, none⟩ (.int .u64 y)) := (FrL.of_below H7.out.1.1).onB ho (.inl rfl)
  have hpk : PkB (w7.setCell ⟨E, 5, none⟩ (.int .u64 y)) w.heap.size p := (ho.block _ (by have := hE.1.1; omega)).trans H7.out.1.2.1
  obtain ⟨w8, hw8⟩ : ∃ X, X = w7.setCell ⟨E, 5, none⟩ (.int .u64 y) := ⟨_, rfl⟩
  rw [← hw8] at hl8 hfr hpk ⊢
  have HK := Lib.hid (And.intro hl8 (And.intro hfr hpk))
  clear hw8 ho hE hl8 hfr hpk
  obtain ⟨h0, h1, h2, h3, h4, hf0⟩ := HK.out.2.2.cells
  go_wp2_with fail
  refine (HA.out _ (HK.out.2.1.tab HT.out HL0.out)).mono ?_
  rintro _ wa ⟨rfl, ba⟩
  have HZ : Hid (PR w p E M N { s with rc := s.rc + 1 } wa) := Lib.hid ⟨HK.out.2.1.call ba, HK.out.2.2.below ba, (HK.out.1.below ba).box, (HK.out.1.below ba).com⟩
  have HTa := Lib.hid (Sha.tab_below (HK.out.2.1.tab HT.out HL0.out) ba)
  have HN := Lib.hid (HK.out.1.below ba).ack
  clear h0 h1 h2 h3 h4 hf0 HK ba
  go_upto_region 18 with fail
  refine wp_region_held_drew (S := PR w p E M N { s with rc := s.rc + 1 }) (by kernel_rfl) (PR.drew HZ.out) (fun hHeld => ?_)
  refine wpAnyH_take (i := 0) (oi := _) (v := ?_) rfl (by kernel_rfl) (by kernel_rfl) (by kernel_rfl) (fun _ _ _ h => h) (Or.inl ⟨by rfl, ?_⟩) (by assumption) ?_
  rotate_left
  · (intro W hSw; obtain ⟨h0, h1, h2, h3, h4, hf0⟩ := hSw.2.1.cells; have e8 := hSw.cells; go_simp; try with_reducible rfl)
  try simp only [Act.put, List.getElem_toArray, List.getElem_cons_zero, List.setIfInBounds_toArray, List.set_cons_zero, List.set_cons_succ]
  refine wpAnyH_take (i := 1) (oi := _) (v := ?_) rfl (by kernel_rfl) (by kernel_rfl) (by kernel_rfl) (fun _ _ _ h => h) (Or.inl ⟨by rfl, ?_⟩) (by assumption) ?_
  rotate_left
  · (intro W hSw; obtain ⟨h0, h1, h2, h3, h4, hf0⟩ := hSw.2.1.cells; have e8 := hSw.cells; go_simp; try with_reducible rfl)
  try simp only [Act.put, List.getElem_toArray, List.getElem_cons_succ, List.getElem_cons_zero, List.setIfInBounds_toArray, List.set_cons_zero, List.set_cons_succ]
  refine wpAnyH_take (i := 2) (oi := _) (v := ?_) rfl (by kernel_rfl) (by kernel_rfl) (by kernel_rfl) (fun _ _ _ h => h) (Or.inl ⟨by rfl, ?_⟩) (by assumption) ?_
  rotate_left
  · (intro W hSw; obtain ⟨h0, h1, h2, h3, h4, hf0⟩ := hSw.2.1.cells; have e8 := hSw.cells; go_simp; try with_reducible rfl)
  try simp only [Act.put, List.getElem_toArray, List.getElem_cons_succ, List.getElem_cons_zero, List.setIfInBounds_toArray, List.set_cons_zero, List.set_cons_succ]
  refine wpAnyH_take (i := 3) (oi := _) (v := ?_) rfl (by kernel_rfl) (by kernel_rfl) (by kernel_rfl) (fun _ _ _ h => h) (Or.inl ⟨by rfl, ?_⟩) (by assumption) ?_
  rotate_left
  · (intro W hSw; obtain ⟨h0, h1, h2, h3, h4, hf0⟩ := hSw.2.1.cells; have e8 := hSw.cells; go_simp; try with_reducible rfl)
  try simp only [Act.put, List.getElem_toArray, List.getElem_cons_succ, List.getElem_cons_zero, List.setIfInBounds_toArray, List.set_cons_zero, List.set_cons_succ]
  refine wpAnyH_take (i := 4) (oi := _) (v := ?_) rfl (by kernel_rfl) (by kernel_rfl) (by kernel_rfl) (fun _ _ _ h => h) (Or.inl ⟨by rfl, ?_⟩) (by assumption) ?_
  rotate_left
  · (intro W hSw; obtain ⟨h0, h1, h2, h3, h4, hf0⟩ := hSw.2.1.cells; have e8 := hSw.cells; go_simp; try with_reducible rfl)
  try simp only [Act.put, List.getElem_toArray, List.getElem_cons_succ, List.getElem_cons_zero, List.setIfInBounds_toArray, List.set_cons_zero, List.set_cons_succ]
  refine wpAnyH_take (i := 5) (oi := _) (v := ?_) rfl (by kernel_rfl) (by kernel_rfl) (by kernel_rfl) (fun _ _ _ h => h) (Or.inl ⟨by rfl, ?_⟩) (by assumption) ?_
  rotate_left
  · (intro W hSw; obtain ⟨h0, h1, h2, h3, h4, hf0⟩ := hSw.2.1.cells; have e8 := hSw.cells; go_simp; try with_reducible rfl)
  try simp only [Act.put, List.getElem_toArray, List.getElem_cons_succ, List.getElem_cons_zero, List.setIfInBounds_toArray, List.set_cons_zero, List.set_cons_succ]
  refine wpAnyH_take (i := 6) (oi := _) (v := ?_) rfl (by kernel_rfl) (by kernel_rfl) (by kernel_rfl) (fun _ _ _ h => h) (Or.inl ⟨by rfl, ?_⟩) (by assumption) ?_
  rotate_left
  · (intro W hSw; obtain ⟨h0, h1, h2, h3, h4, hf0⟩ := hSw.2.1.cells; have e8 := hSw.cells; go_simp; try with_reducible rfl)
  try simp only [Act.put, List.getElem_toArray, List.getElem_cons_succ, List.getElem_cons_zero, List.setIfInBounds_toArray, List.set_cons_zero, List.set_cons_succ]
  refine wpAnyH_ready (rs := [7]) (by kernel_rfl) (by simp) ?_
  refine AllReadyH.cons rfl (fun K hK => ?_) AllReadyH.nil
  simp only [List.getElem_toArray, List.getElem_cons_succ, List.getElem_cons_zero]
  rw [if_pos (by rfl)]
  go_simp
  refine hK.out _ _ (PR.call hHeld ((Below.refl _ _).alloc (Nat.le_refl _) _)) (fun hHeld => ?_)
  clear hK K
  try simp only [Act.put, List.getElem_toArray, List.getElem_cons_succ, List.getElem_cons_zero, List.setIfInBounds_toArray, List.set_cons_zero, List.set_cons_succ]
  have hbx : Below wa.heap.size wa (wa.alloc (.cells #[.string A] 9)).drew := ((Below.refl _ _).alloc (Nat.le_refl _) _).drew
  have HBx := Lib.hid hbx
  clear hbx
  refine wpAnyH_ready (rs := [8]) (by kernel_rfl) (by simp) ?_
  refine AllReadyH.cons rfl (fun K hK => ?_) AllReadyH.nil
  simp only [List.getElem_toArray, List.getElem_cons_succ, List.getElem_cons_zero]
  rw [if_pos (by rfl)]
  go_simp
  (refine (HOf.out _ _ (Sha.tab_below HTa.out HBx.out) (by simp) (by simp)).mono ?_; rintro e wo ⟨rfl, hbo⟩)
  go_wp2_with fail
  refine hK.out _ _ (PR.call hHeld hbo) (fun hHeld => ?_)
  clear hK K
  try simp only [Act.put, List.getElem_toArray, List.getElem_cons_succ, List.getElem_cons_zero, List.setIfInBounds_toArray, List.set_cons_zero, List.set_cons_succ]
  have HBo := Lib.hid (HBx.out.trans (hbo.mono HBx.out.size))
  obtain ⟨wd, hput, hmg, hon⟩ := put_run ks_ok p.s Q N s.ac wo (HN.out.below HBo.out)
  have hput' : (Instr.mapUpdate TMp (.map (some N)) (.int .u64 p.s) (.agg Q)).run Tryd.prog wo = .ok () wd := hput
  have HG := Lib.hid hmg
  have HO := Lib.hid hon
  clear hput hmg hon
  refine wpAnyH_ready (rs := [9]) (by kernel_rfl) (by simp) ?_
  refine AllReadyH.cons rfl (fun K hK => ?_) AllReadyH.nil
  simp only [List.getElem_toArray, List.getElem_cons_succ, List.getElem_cons_zero]
  rw [if_pos (by rfl)]
  go_simp
  refine hK.out _ _ (PR.on hHeld HO.out HEl.out.1.2.2 HEl.out.2.1 HEl.out.2.2.1) (fun hHeld => ?_)
  clear hK K
  try simp only [Act.put, List.getElem_toArray, List.getElem_cons_succ, List.getElem_cons_zero, List.setIfInBounds_toArray, List.set_cons_zero, List.set_cons_succ]
  refine wpAnyH_done (by kernel_rfl) ?_ _
  have H9 := Lib.hid hHeld
  clear hput' hHeld hbo HBx HBo HZ HN HTa
  go_wp2
  go_ret2
  refine ⟨by rw [← HQ.out.2.1] <;> rfl, ⟨H9.out.2.2.1, H9.out.2.2.2, ?_, HEl.out.2.2.1, HEl.out.2.2.2.1, fun x hx => ?_⟩, H9.out.1⟩
  · have := HG.out
    rw [HQ.out.1] at this
    exact this
  · rcases mem_ins hx with rfl | hx
    · exact ackP_ok _
    · exact HEl.out.2.2.2.2 x hx
end Go.Proofs.YtdljphbfbiganaaDoor.Lg
