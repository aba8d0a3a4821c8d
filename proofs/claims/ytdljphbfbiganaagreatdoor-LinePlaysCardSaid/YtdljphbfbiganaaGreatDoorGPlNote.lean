import Derived.Test.YtdljphbfbiganaaGreatDoorPlMine
import Derived.Deep.AppendLies
import Derived.Test.YtdljphbfbiganaaGreatDoorLastHeld
/- The page's line: a note is built, rows of notes grow; Without. -/
namespace Go.Proofs.YtdljphbfbiganaaGreatDoor.Pl
open Go Go.RowKit Packet Mg Lg Ln
set_option linter.unusedVariables false

set_option maxRecDepth 100000 in
theorem bldT (n : Int) (C : Array Value) (hC : SumOk C) (W : World) : (Instr.build TNt #[(0, .int .u64 n), (1, .agg C)]).run Tryz.prog W = .ok (.agg (ncl (n, C))) W := by
  obtain ⟨h1, _, xs, rfl⟩ := hC
  have h2 : xs.length = 32 := by simpa using h1
  match xs, h2 with
  | [x0, x1, x2, x3, x4, x5, x6, x7, x8, x9, x10, x11, x12, x13, x14, x15, x16, x17, x18, x19, x20, x21, x22, x23, x24, x25, x26, x27, x28, x29, x30, x31], _ => show _ = _; kernel_rfl
set_option maxRecDepth 100000 in
theorem bslT (n : Int) (C : Array Value) (hC : SumOk C) (W : World) : (Instr.buildSlice 52 1 #[(0, .agg (ncl (n, C)))]).run Tryz.prog W = .ok (.slice (some ⟨W.heap.size, 0, none⟩) 1 1) (W.alloc (.cells (ncl (n, C)) TNt)) := by
  obtain ⟨h1, _, xs, rfl⟩ := hC
  have h2 : xs.length = 32 := by simpa using h1
  match xs, h2 with
  | [x0, x1, x2, x3, x4, x5, x6, x7, x8, x9, x10, x11, x12, x13, x14, x15, x16, x17, x18, x19, x20, x21, x22, x23, x24, x25, x26, x27, x28, x29, x30, x31], _ => show _ = _; kernel_rfl
theorem yields_bld {o : Oper} {a : Act} {w : World} {n : Int} {C : Array Value} (x y : Operand) (ho : o.op = .build TNt #[(0, x), (1, y)]) (hx : a.eval x = .int .u64 n) (hy : a.eval y = .agg C) (hC : SumOk C) :
    (execOp a.eval o).run Tryz.prog w = .ok (.value (.agg (ncl (n, C)))) w := by
  unfold execOp
  simp only [ho, List.map_toArray, List.map_cons, List.map_nil, hx, hy, Sem.run_bind, bldT n C hC w, Result.andThen_ok]
  rfl
theorem wp_bsl {o : Oper} {a : Act} {w : World} {K : Act → World → Prop} {Q : Exit → Act → World → Prop} {q : Int × Array Value} (x : Operand) (ho : o.op = .buildSlice 52 1 #[(0, x)]) (hx : a.eval x = .agg (ncl q)) (hC : SumOk q.2)
    (h : K (a.put o.dst (.slice (some ⟨w.heap.size, 0, none⟩) 1 1)) (w.alloc (.cells (ncl q) TNt))) : o.wp Tryz.prog a w K Q := by
  unfold Oper.wp execOp
  simp only [ho, List.map_toArray, List.map_cons, List.map_nil, hx, Sem.run_bind, bslT q.1 q.2 hC w, Result.andThen_ok]
  exact h
theorem infoNt : (Tryz.prog.info? TNt).map (fun i => (i.zero, i.size, i.bytes)) = some (some (.agg ((.int .u64 0 :: List.replicate 32 (.int .u8 0)).toArray)), 33, 40) := by kernel_rfl
theorem info_partsT {o : Option TypeInfo} {z : Value} {s b : Nat} (h : o.map (fun i => (i.zero, i.size, i.bytes)) = some (some z, s, b)) : ∃ i, o = some i ∧ i.zero = some z ∧ i.size = s ∧ i.bytes = b := by
  cases o with
  | none => simp at h
  | some i => simp at h; exact ⟨i, rfl, h.1, h.2.1, h.2.2⟩
theorem news_nt (V : World) (q : Int × Array Value) (hq : SumOk q.2) : ∀ j u, (ncl q).toList[j]? = some u → (V.alloc (.cells (ncl q) TNt)).cell? ((⟨V.heap.size, 0, none⟩ : Addr).add j) = some u := by
  intro j u h
  have := cell_of_row (V.alloc (.cells (ncl q) TNt)) V.heap.size j (ncl q) TNt (0, 0) (heap_alloc_new V _)
  rw [Addr.add_mid, Nat.zero_add]
  rw [Array.getElem?_toList] at h
  exact this.trans h
theorem ones_nt (q : Int × Array Value) (hq : SumOk q.2) : ∀ u ∈ (ncl q).toList, u.oneCell' = true := by
  intro u hu
  unfold ncl at hu
  rw [Array.toList_append, List.mem_append] at hu
  rcases hu with hu | hu
  · simp at hu; subst hu; rfl
  · exact (Array.all_eq_true'.1 hq.2.1) u (by simpa using hu)
theorem len_nt (q : Int × Array Value) (hq : SumOk q.2) : (ncl q).toList.length = 1 * 33 := by rw [Array.length_toList, ncl_size hq]
/-- without the one at a place -/
def woT (L : List (Int × Array Value)) (i : Nat) : List (Int × Array Value) := L.eraseIdx i
theorem wo_take (L : List (Int × Array Value)) (at_ i : Nat) (h : i < L.length) : (L.take (i + 1)).eraseIdx at_ = if i = at_ then (L.take i).eraseIdx at_ else (L.take i).eraseIdx at_ ++ [L[i]] := by
  rw [List.take_succ_eq_append_getElem h]
  have hl : (L.take i).length = i := by rw [List.length_take]; omega
  generalize L[i] = x
  generalize L.take i = T at hl ⊢
  by_cases e : i = at_
  · have a : (T ++ [x]).eraseIdx at_ = T := by
      rw [List.eraseIdx_append_of_length_le (by omega), show at_ - T.length = 0 by omega]
      simp
    rw [if_pos e, a, List.eraseIdx_of_length_le (by omega)]
  · rw [if_neg e]
    by_cases h2 : at_ < i
    · rw [List.eraseIdx_append_of_lt_length (by omega)]
    · have a : (T ++ [x]).eraseIdx at_ = T ++ [x] := List.eraseIdx_of_length_le (by rw [List.length_append, List.length_singleton]; omega)
      have b : T.eraseIdx at_ = T := List.eraseIdx_of_length_le (by omega)
      rw [a, b]
theorem del_erase : ∀ (L : List (Int × Array Value)) (k : Int) (i : Nat) (h : i < L.length), (L[i]).1 = k → (∀ j (hj : j < L.length), j < i → (L[j]).1 ≠ k) → L.eraseIdx i = del k L
  | x :: L, k, 0, _, he, _ => by unfold del; rw [if_pos (by simpa using he.symm)]; rfl
  | x :: L, k, i + 1, h, he, hb => by
    unfold del
    rw [if_neg (by have := hb 0 (by simp) (by omega); simpa using fun e => this e.symm)]
    rw [List.eraseIdx_cons_succ, del_erase L k i (by simpa using h) (by simpa using he) (fun j hj hji => by have := hb (j + 1) (by simpa using hj) (by omega); simpa using this)]
set_option maxRecDepth 20000 in
set_option maxHeartbeats 8000000 in
theorem wo_any (A : Option Addr) (len cap : Nat) (L : List (Int × Array Value)) (at_ : Nat) (W : World) (hq : RdT W A len L) (hl : len ≤ 1000000) (ha : at_ < len) :
    Calls Tryz.prog 33 #[.slice A len cap, .int .i64 (at_ : Int)] W fun e w' => ∃ A' m' c', e = .returned (.slice A' m' c') ∧ OwnT W.heap.size w' A' m' c' (L.eraseIdx at_) ∧ Below W.heap.size W w' := by
  obtain ⟨i0, hi', hz0, hz1, hz2⟩ := info_partsT infoNt
  have HI := Lib.hid (And.intro hi' (And.intro hz0 (And.intro hz1 hz2)))
  have HQ := Lib.hid hq
  have haI : (at_ : Int) < (len : Int) := by omega
  have ha0 : (0 : Int) ≤ (at_ : Int) := by omega
  clear hq hi' hz0 hz1 hz2
  go_enter Tryz.func33, Tryz.ntmps33
  go_wp2
  go_loopw [5, 6] (fun s5 s6 wr => ∃ (i : Nat) (A1 : Option Addr) (m1 c1 : Nat), s5 = .slice A1 m1 c1 ∧ s6 = .int .i64 (i : Int) ∧ i ≤ len ∧ Hid (OwnT W.heap.size wr A1 m1 c1 ((L.take i).eraseIdx at_) ∧ Below W.heap.size W wr)) (fun _ v _ => len - (intOf v).toNat)
  case atStart => exact ⟨0, none, 0, 0, rfl, rfl, Nat.zero_le _, Lib.hid ⟨⟨by simpa [nct] using World.ownsRow_nil W W.heap.size TNt 33, by simp⟩, Below.refl _ _⟩⟩
  case round =>
    obtain ⟨i, A1, m1, c1, rfl, rfl, hi, HA⟩ := hrel
    by_cases hlt : i < len
    · have hi0 : (0 : Int) ≤ (i : Int) := by omega
      have hi1 : (i : Int) < (len : Int) := by omega
      obtain ⟨b9, off, hAq, hbl, hcs⟩ := (HQ.out.below HA.out.2).cells (by omega)
      have hlq : i < L.length := by have := HQ.out.many; omega
      subst hAq
      have htk := wo_take L at_ i hlq
      have hrg := ncl_all (hcs i hlq) (HQ.out.ok _ (List.getElem_mem hlq))
      have hok := HQ.out.ok _ (List.getElem_mem hlq)
      obtain ⟨q, hqq⟩ : ∃ q, q = L[i] := ⟨_, rfl⟩
      rw [← hqq] at htk hrg hok
      have HT := Lib.hid htk
      have HR := Lib.hid (And.intro hrg hok)
      clear hcs htk hrg hok hqq hbl hlq
      by_cases he : i = at_
      · have e1 : ((i : Int) != (at_ : Int)) = false := by simp; omega
        have HE := Lib.hid he
        clear he
        go_wp2
        go_roundw
        case rel => exact ⟨i + 1, A1, m1, c1, rfl, by go_num, by omega, Lib.hid ⟨by rw [HT.out, if_pos HE.out]; exact HA.out.1, HA.out.2⟩⟩
        case measure => simp [intOf]; omega
      · have e1 : ((i : Int) != (at_ : Int)) = true := by simp; omega
        have HE := Lib.hid he
        clear he
        go_upto_region 6 with fail
        clear e1
        refine wp_region_lit ?_
        refine wpList_step (fun K hK => ?_)
        go_simp
        refine hK _ _ ?_
        clear hK K
        refine wpList_step (fun K hK => ?_)
        go_simp
        refine hK _ _ ?_
        clear hK K
        refine wpList_step (fun K hK => ?_)
        go_simp
        refine hK _ _ ?_
        clear hK K
        refine wpList_step (fun K hK => ?_)
        go_simp
        refine hK _ _ ?_
        clear hK K
        refine wpList_load_mid rfl TNt _ rfl b9 (off + i * 33) rfl (ncl q).toList _ HR.out.1 Tryz.underlying62 rfl (by rw [Array.length_toList, ncl_size HR.out.2]; kernel_rfl) ?_
        rw [Array.toArray_toList]
        refine wpList_plain rfl fun _ hK => wp_bsl (q := q) _ rfl rfl HR.out.2 (hK _ _ ?_)
        have hbl := (Below.refl wr.heap.size wr).alloc (Nat.le_refl _) (.cells (ncl q) TNt)
        have how : OwnT W.heap.size (wr.alloc (.cells (ncl q) TNt)) A1 m1 c1 ((L.take i).eraseIdx at_) := own_eqT HA.out.1 fun k hk => by obtain ⟨cur, hc⟩ := own_cellT HA.out.1 k hk; exact hbl.block k (lt_of hc)
        have hbW : Below W.heap.size W (wr.alloc (.cells (ncl q) TNt)) := HA.out.2.trans (hbl.mono HA.out.2.size)
        have hlen : ((L.take i).eraseIdx at_).length ≤ 1000000 := Nat.le_trans (List.length_eraseIdx_le _ _) (by rw [List.length_take]; omega)
        have hrow := how.1
        rw [← how.2] at hrow hlen
        have HRo := Lib.hid (And.intro hrow how.2)
        have HBW := Lib.hid hbW
        have HLe := Lib.hid hlen
        clear hbl how hbW hlen hrow
        refine wpList_append_lies _ rfl _ _ 52 rfl W.heap.size TNt i0 _ 33 40 Tryz.underlying52 HI.out.1 HI.out.2.1 HI.out.2.2.1 HI.out.2.2.2 rfl (by decide) _ _ _ rfl HRo.out.1 ⟨wr.heap.size, 0, none⟩ 1 1 (ncl q).toList rfl (len_nt q HR.out.2) (news_nt wr q HR.out.2) (ones_nt q HR.out.2) (by decide) (by have := HLe.out; unfold maxLen; omega) (by have := HLe.out; omega) HBW.out.size _ rfl ?_
        intro g cap1 w2 hown hgr hat _
        have hb2 : Below W.heap.size W w2 := HBW.out.grown hgr HBW.out.size fun k hk => own_ge HRo.out.1 k hk
        rw [HRo.out.2, ← nct_snoc] at hown
        have H2 := Lib.hid (And.intro hown hb2)
        have HM := HRo.out.2
        have HMm := Lib.hid HM
        clear hown hb2 hgr hat HM
        refine wpList_step (fun K hK => ?_)
        go_simp
        refine hK _ _ ?_
        clear hK K
        refine wpList_nil ?_
        go_wp2
        go_roundw
        case rel => exact ⟨i + 1, _, _, _, rfl, by go_num, by omega, Lib.hid ⟨⟨by rw [HT.out, if_neg HE.out, HMm.out, List.length_append, List.length_singleton]; exact H2.out.1, by rw [HT.out, if_neg HE.out, List.length_append, List.length_singleton, HMm.out]⟩, H2.out.2⟩⟩
        case measure => simp [intOf]; omega
    · obtain rfl : i = len := by omega
      have hii : ¬ ((i : Int) < (i : Int)) := by omega
      have hf : L.take i = L := List.take_of_length_le (by have := HQ.out.many; omega)
      have hA := HA.out
      rw [hf] at hA
      have HF := Lib.hid hA
      clear hA hf
      go_wp2
      go_ret
      exact ⟨A1, m1, c1, rfl, HF.out.1, HF.out.2⟩
end Go.Proofs.YtdljphbfbiganaaGreatDoor.Pl
/- The page's line: what its writes leave alone. -/
namespace Go.Proofs.YtdljphbfbiganaaGreatDoor.Pl
open Go Go.RowKit Packet Mg Lg Ln
set_option linter.unusedVariables false

/-- all stands but a box and two rows -/
structure FP (B : Nat) (oc oa : Option Nat) (V V' : World) : Prop where
  os : V'.os = V.os
  tape : V'.tape = V.tape
  output : V'.output = V.output
  size : V.heap.size ≤ V'.heap.size
  block : ∀ k, k < V.heap.size → k ≠ B → oc ≠ some k → oa ≠ some k → V'.heap[k]? = V.heap[k]?
section
variable {B : Nat} {oc oa o : Option Nat} {V W X : World}
theorem FP.of_below (h : Below V.heap.size V W) : FP B oc oa V W := ⟨h.os, h.tape, h.output, h.size, fun k hk _ _ _ => h.block k hk⟩
theorem FP.call (h : FP B oc oa V W) (hb : Below W.heap.size W X) : FP B oc oa V X :=
  ⟨hb.os.trans h.os, hb.tape.trans h.tape, hb.output.trans h.output, Nat.le_trans h.size hb.size, fun k hk h1 h2 h3 => (hb.block k (Nat.lt_of_lt_of_le hk h.size)).trans (h.block k hk h1 h2 h3)⟩
theorem FP.set (h : FP B oc oa V W) (i : Nat) (v : Value) : FP B oc oa V (W.setCell ⟨B, i, none⟩ v) :=
  have ho := onB_setCell W B i v
  ⟨ho.os.trans h.os, ho.tape.trans h.tape, ho.output.trans h.output, by rw [ho.size]; exact h.size, fun k hk h1 h2 h3 => (ho.block k h1).trans (h.block k hk h1 h2 h3)⟩
theorem FP.grown (h : FP B oc oa V W) (hg : W.grownBy X o) (ho : ∀ k, o = some k → oc = some k ∨ oa = some k ∨ V.heap.size ≤ k) : FP B oc oa V X :=
  ⟨hg.os.trans h.os, hg.tape.trans h.tape, hg.output.trans h.output, Nat.le_trans h.size hg.size, fun k hk h1 h2 h3 => (hg.block k (Nat.lt_of_lt_of_le hk h.size) (fun e => by rcases ho k e.symm with e | e | e; exact h2 e; exact h3 e; omega)).trans (h.block k hk h1 h2 h3)⟩
theorem FP.below {lo : Nat} {a : World} (h : FP B oc oa V W) (hb : Below lo a V) (hl : lo ≤ V.heap.size) (h1 : lo ≤ B) (h2 : ∀ k, oc = some k → lo ≤ k) (h3 : ∀ k, oa = some k → lo ≤ k) : Below lo a W :=
  ⟨h.os.trans hb.os, h.tape.trans hb.tape, h.output.trans hb.output, Nat.le_trans hb.size h.size, fun k hk => (h.block k (by omega) (by omega) (fun e => by have := h2 k e; omega) (fun e => by have := h3 k e; omega)).trans (hb.block k hk)⟩
end
/-- the end behind an operation -/
def PX (b0 B : Nat) (oc oa : Option Nat) (V : World) (s' : St) (V' : World) : Prop := ∃ Ac mc cc Aa ma ca, PN b0 V' B s' Ac mc cc Aa ma ca ∧ FP B oc oa V V' ∧ (∀ k, (Value.slice Ac mc cc).ownBlock = some k → oc = some k ∨ V.heap.size ≤ k) ∧ (∀ k, (Value.slice Aa ma ca).ownBlock = some k → oa = some k ∨ V.heap.size ≤ k)
section
variable {b0 b1 : Nat} {V W X : World} {B b : Nat} {s : St} {Ac Aa A' : Option Addr} {mc cc ma ca m' c' : Nat} {L : List (Int × Array Value)} {p : P5}
theorem PX.same (h : PN b0 V B s Ac mc cc Aa ma ca) (hb : Below V.heap.size V W) : PX b0 B (Value.slice Ac mc cc).ownBlock (Value.slice Aa ma ca).ownBlock V s W :=
  ⟨Ac, mc, cc, Aa, ma, ca, h.below hb, FP.of_below hb, fun k hk => .inl hk, fun k hk => .inl hk⟩
theorem own_baseT (h : OwnT b1 V Ac mc cc L) (hb : b0 ≤ b1) : OwnT b0 V Ac mc cc L := by
  refine ⟨⟨h.1.1, ?_⟩, h.2⟩
  rcases h.1.2 with h2 | ⟨g, cap, cur, hv, hg, r⟩
  · exact .inl h2
  · exact .inr ⟨g, cap, cur, hv, Nat.le_trans hb hg, r⟩
theorem own_geT (h : OwnT b1 V Ac mc cc L) : ∀ k, (Value.slice Ac mc cc).ownBlock = some k → b1 ≤ k := fun k hk => own_ge h.1 k hk
theorem own_ltT (h : OwnT b1 V Ac mc cc L) : ∀ k, (Value.slice Ac mc cc).ownBlock = some k → k < V.heap.size := fun k hk => by
  obtain ⟨cur, hc⟩ := own_cellT h k hk
  exact lt_of hc
theorem own_neB {cs : Array Value} {q : Nat × Nat} (h : OwnT b1 V Ac mc cc L) (hb : V.heap[B]? = some (.cells cs TRl q)) : ∀ k, (Value.slice Ac mc cc).ownBlock = some k → k ≠ B := fun k hk e => by
  obtain ⟨cur, hc⟩ := own_cellT h k hk
  rw [e, hb] at hc
  injection hc with hc
  injection hc with _ hc
  exact absurd hc (by decide)
theorem own_setB {cs : Array Value} {q : Nat × Nat} (h : OwnT b1 V Ac mc cc L) (hb : V.heap[B]? = some (.cells cs TRl q)) (i : Nat) (v : Value) : OwnT b1 (V.setCell ⟨B, i, none⟩ v) Ac mc cc L :=
  own_eqT h fun k hk => (onB_setCell V B i v).block k (own_neB h hb k hk)
theorem PN.closed (h : PN b0 V B s Ac mc cc Aa ma ca) (x : Bool) : PN b0 (V.setCell ⟨B, 3, none⟩ (.bool x)) B { s with cl := x } Ac mc cc Aa ma ca :=
  ⟨set_at (i := 3) (.bool x) h.box, own_setB h.rc h.box 3 _, own_setB h.ra h.box 3 _, h.d, h.cok, h.aok⟩
theorem PN.sent (h : PN b0 V B s Ac mc cc Aa ma ca) (x : Int) : PN b0 (V.setCell ⟨B, 4, none⟩ (.int .u64 x)) B { s with sn := x } Ac mc cc Aa ma ca :=
  ⟨set_at (i := 4) (.int .u64 x) h.box, own_setB h.rc h.box 4 _, own_setB h.ra h.box 4 _, h.d, h.cok, h.aok⟩
theorem PN.recd (h : PN b0 V B s Ac mc cc Aa ma ca) (x : Int) : PN b0 (V.setCell ⟨B, 5, none⟩ (.int .u64 x)) B { s with rc := x } Ac mc cc Aa ma ca :=
  ⟨set_at (i := 5) (.int .u64 x) h.box, own_setB h.rc h.box 5 _, own_setB h.ra h.box 5 _, h.d, h.cok, h.aok⟩
theorem PN.ackd (h : PN b0 V B s Ac mc cc Aa ma ca) (x : Int) : PN b0 (V.setCell ⟨B, 6, none⟩ (.int .u64 x)) B { s with ak := x } Ac mc cc Aa ma ca :=
  ⟨set_at (i := 6) (.int .u64 x) h.box, own_setB h.rc h.box 6 _, own_setB h.ra h.box 6 _, h.d, h.cok, h.aok⟩
/-- an end's box, a packet's -/
def SB (B : Nat) (s : St) (Ac : Option Addr) (mc cc : Nat) (Aa : Option Addr) (ma ca : Nat) (b : Nat) (p : P5) (V : World) : Prop :=
  V.heap[B]? = some (.cells #[.int .i64 s.ch, .int .i64 s.sd, .bool s.o, .bool s.cl, .int .u64 s.sn, .int .u64 s.rc, .int .u64 s.ak, .slice Ac mc cc, .slice Aa ma ca] TRl (0, 0)) ∧ PkB V b p
theorem SB.below (h : SB B s Ac mc cc Aa ma ca b p V) (hb : Below V.heap.size V W) : SB B s Ac mc cc Aa ma ca b p W := ⟨(hb.block _ (lt_of h.1)).trans h.1, h.2.below hb⟩
theorem SB.grown {A9 : Option Addr} {m9 c9 : Nat} (h : SB B s Ac mc cc Aa ma ca b p V) (hr : OwnT b1 V A9 m9 c9 L) (hg : V.grownBy W (Value.slice A9 m9 c9).ownBlock) : SB B s Ac mc cc Aa ma ca b p W := by
  refine ⟨(hg.block _ (lt_of h.1) fun e => own_neB hr h.1 _ e.symm rfl).trans h.1, (hg.block _ (lt_of h.2) fun e => ?_).trans h.2⟩
  obtain ⟨cur, hc⟩ := own_cellT hr b e.symm
  have h2 := h.2
  unfold PkB at h2
  rw [h2] at hc
  injection hc with hc
  injection hc with _ hc
  exact absurd hc (by decide)
theorem SB.cells (h : SB B s Ac mc cc Aa ma ca b p W) : W.cell? ⟨B, 0, none⟩ = some (.int .i64 s.ch) ∧ W.cell? ⟨B, 1, none⟩ = some (.int .i64 s.sd) ∧ W.cell? ⟨B, 2, none⟩ = some (.bool s.o) ∧ W.cell? ⟨B, 3, none⟩ = some (.bool s.cl) ∧ W.cell? ⟨B, 4, none⟩ = some (.int .u64 s.sn) ∧ W.cell? ⟨B, 5, none⟩ = some (.int .u64 s.rc) ∧ W.cell? ⟨B, 6, none⟩ = some (.int .u64 s.ak) ∧ W.cell? ⟨B, 7, none⟩ = some (.slice Ac mc cc) ∧ W.cell? ⟨B, 8, none⟩ = some (.slice Aa ma ca) ∧ (∀ i, W.frozen? ⟨B, i, none⟩ = false) :=
  ⟨cell_of_row W B 0 _ _ (0, 0) h.1, cell_of_row W B 1 _ _ (0, 0) h.1, cell_of_row W B 2 _ _ (0, 0) h.1, cell_of_row W B 3 _ _ (0, 0) h.1, cell_of_row W B 4 _ _ (0, 0) h.1, cell_of_row W B 5 _ _ (0, 0) h.1, cell_of_row W B 6 _ _ (0, 0) h.1, cell_of_row W B 7 _ _ (0, 0) h.1, cell_of_row W B 8 _ _ (0, 0) h.1, fun i => by simp [World.frozen?, h.1]⟩
/-- the commitments' row is another one -/
theorem SB.setC (h : SB B s Ac mc cc Aa ma ca b p W) (ho : OwnT b0 W A' m' c' L) (hra : OwnT b0 W Aa ma ca s.ac) (hok : AllOk L) (haok : AllOk s.ac) (hd : ∀ k, (Value.slice A' m' c').ownBlock = some k → (Value.slice Aa ma ca).ownBlock ≠ some k) :
    PN b0 (W.setCell ⟨B, 7, none⟩ (.slice A' m' c')) B { s with cm := L } A' m' c' Aa ma ca :=
  ⟨set_at (i := 7) (.slice A' m' c') h.1, own_setB ho h.1 7 _, own_setB hra h.1 7 _, hd, hok, haok⟩
/-- the receipts' row is another one -/
theorem SB.setA (h : SB B s Ac mc cc Aa ma ca b p W) (hrc : OwnT b0 W Ac mc cc s.cm) (ho : OwnT b0 W A' m' c' L) (hcok : AllOk s.cm) (hok : AllOk L) (hd : ∀ k, (Value.slice Ac mc cc).ownBlock = some k → (Value.slice A' m' c').ownBlock ≠ some k) :
    PN b0 (W.setCell ⟨B, 8, none⟩ (.slice A' m' c')) B { s with ac := L } Ac mc cc A' m' c' :=
  ⟨set_at (i := 8) (.slice A' m' c') h.1, own_setB hrc h.1 8 _, own_setB ho h.1 8 _, hd, hcok, hok⟩
theorem PN.sb (h : PN b0 V B s Ac mc cc Aa ma ca) (hp : PkB V b p) : SB B s Ac mc cc Aa ma ca b p V := ⟨h.box, hp⟩
theorem ok_erase {i : Nat} (h : AllOk L) : AllOk (L.eraseIdx i) := fun x hx => h x (List.mem_of_mem_eraseIdx hx)
theorem ok_snoc {q : Int × Array Value} (h : AllOk L) (hq : SumOk q.2) : AllOk (L ++ [q]) := fun x hx => by
  rcases List.mem_append.1 hx with hx | hx
  · exact h x hx
  · rw [List.mem_singleton] at hx; subst hx; exact hq
end
/-- what is new is put behind -/
theorem ins_new : ∀ (L : List (Int × Array Value)) (k : Int) (v : Array Value), Mg.lk k L = none → ins k v L = L ++ [(k, v)]
  | [], _, _, _ => rfl
  | x :: L, k, v, h => by
    unfold Mg.lk at h
    unfold ins
    split at h
    · cases h
    · rename_i hk
      rw [if_neg hk, ins_new L k v h]
      rfl
end Go.Proofs.YtdljphbfbiganaaGreatDoor.Pl
