import Derived.Test.YtdljphbfbiganaaGreatDoorLgRecv
import Derived.Test.YtdljphbfbiganaaGreatDoorLgSent
import Derived.Test.YtdljphbfbiganaaGreatDoorGNumRef
import Derived.Deep.MidRow
/- line: each operation of an end in whatever state, by its answer's number. -/
namespace Go.Proofs.YtdljphbfbiganaaGreatDoor.Lg
open Go Go.RowKit Packet Ln Mg
set_option linter.unusedVariables false

open Classical in
noncomputable def sendC (s : St) (p : P5) (h : Int) : Int :=
  if fitG s p s.sd = false then 1 else if p.s ≠ 0 then 1 else if s.cl = true then 17 else if lateB p h = true then 20 else if s.sn = 18446744073709551615 then 11 else 0
open Classical in
noncomputable def sendS (s : St) (p : P5) (h : Int) : St := if sendC s p h = 0 then sentS p s else s
open Classical in
noncomputable def sendP (s : St) (p : P5) (h : Int) : P5 := if sendC s p h = 0 then pN p s else ⟨0, 0, 0, 0, ⟨#[]⟩⟩
open Classical in
noncomputable def openC (s : St) (p : P5) : Int :=
  if fitG s p s.sd = false then 1 else if s.cl = true then 17 else if (lk p.s s.cm).isSome = false then 15 else if sumOf p.s s.cm ≠ sumP p then 18 else 0
open Classical in
noncomputable def ackC (s s2 : St) (p : P5) (a : ByteArray) : Int :=
  if openC s p ≠ 0 then openC s p else if (lk p.s s2.ac).isSome = false then 18 else if sumOf p.s s2.ac ≠ ackP a then 18 else if s.o = true ∧ p.s ≠ s.ak then 19 else 0
open Classical in
noncomputable def ackT (s s2 : St) (p : P5) (a : ByteArray) : St := if ackC s s2 p a = 0 then (if s.o = true then ackS p s else goneS p s) else s
open Classical in
noncomputable def tmoC (s s2 : St) (p : P5) (h : Int) : Int :=
  if openC s p ≠ 0 then openC s p else if lateB p h = false then 21 else if (lk p.s s2.ac).isSome = true then 10 else 0
open Classical in
noncomputable def tmoS (s s2 : St) (p : P5) (h : Int) : St := if tmoC s s2 p h = 0 then expS p s else s
def pval (p : P5) : Value := .agg #[.int .i64 p.c, .int .i64 p.f, .int .u64 p.s, .int .u64 p.t, .string p.d]
section
variable {w : World} {E M N E2 M2 N2 : Nat} {s s2 : St}
theorem send_any (p : P5) (h : Int) (hT : Sha.Tab w) (hL : LG w E M N s) (hp : p.ok) (hn : 0 ≤ s.sn ∧ s.sn ≤ 18446744073709551615) :
    Calls Tryz.prog 8 #[.pointer (some ⟨E, 0, none⟩), pkv p, .int .u64 h] w fun e w' => e = .returned (.tuple #[pval (sendP s p h), .int .i64 (sendC s p h)]) ∧ LG w' E M N (sendS s p h) ∧ FrL E M N w w' := by
  have errk : ∀ c, c ≠ 0 → sendC s p h = c → (Calls Tryz.prog 8 #[.pointer (some ⟨E, 0, none⟩), pkv p, .int .u64 h] w fun e w' => e = .returned (.tuple #[.agg #[.int .i64 0, .int .i64 0, .int .u64 0, .int .u64 0, .string ⟨#[]⟩], .int .i64 c]) ∧ Below w.heap.size w w') → Calls Tryz.prog 8 #[.pointer (some ⟨E, 0, none⟩), pkv p, .int .u64 h] w fun e w' => e = .returned (.tuple #[pval (sendP s p h), .int .i64 (sendC s p h)]) ∧ LG w' E M N (sendS s p h) ∧ FrL E M N w w' := fun c hc he H => H.mono fun e w' ⟨h1, h2⟩ =>
    ⟨by unfold sendP; rw [he, if_neg hc]; exact h1, by unfold sendS; rw [he, if_neg hc]; exact hL.below h2, FrL.of_below h2⟩
  cases h1 : fitG s p s.sd
  · exact errk 1 (by decide) (by simp [sendC, h1]) (send_unfit p h hL h1)
  by_cases h2 : p.s = 0
  · have h2' : (p.s != 0) = false := by simp [h2]
    cases h3 : s.cl
    · cases h4 : lateB p h
      · by_cases h5 : s.sn = 18446744073709551615
        · exact errk 11 (by decide) (by simp [sendC, h1, h2, h3, h4, h5]) (send_full p h hL h1 h2' h3 h4 (by simp [h5]))
        · have hz : sendC s p h = 0 := by simp [sendC, h1, h2, h3, h4, h5]
          refine (send_ok p h hL hp hT hn.1 (by omega) h1 h2' h3 h4).mono fun e w' ⟨e1, e2, e3⟩ => ⟨?_, ?_, e3⟩
          · unfold sendP; rw [hz, if_pos rfl]; exact e1
          · unfold sendS; rw [hz, if_pos rfl]; exact e2
      · exact errk 20 (by decide) (by simp [sendC, h1, h2, h3, h4]) (send_late p h hL h1 h2' h3 h4)
    · exact errk 17 (by decide) (by simp [sendC, h1, h2, h3]) (send_closed p h hL h1 h2' h3)
  · exact errk 1 (by decide) (by simp [sendC, h1, h2]) (send_seq p h hL h1 (by simp [h2]))
theorem open_any (p : P5) (hp : p.ok) : OpIs p E M N s E2 M2 N2 s2 (openC s p) := fun W hT hL hO => by
  unfold openC
  cases h1 : fitG s p s.sd
  · simp only [if_true]; exact open_unfit p hL hO h1
  cases h2 : s.cl
  · cases h3 : (lk p.s s.cm).isSome
    · simp only [if_true, if_false, Bool.true_eq_false, Bool.false_eq_true]; exact open_none p hL hO h1 h2 h3
    · by_cases h4 : sumOf p.s s.cm = sumP p
      · simp only [if_false, Bool.true_eq_false, Bool.false_eq_true, h4, ne_eq, not_true_eq_false]; exact open_ok p hL hO hp hT h1 h2 h3 h4
      · simp only [if_true, if_false, Bool.true_eq_false, Bool.false_eq_true, ne_eq, h4, not_false_eq_true]; exact open_other p hL hO hp hT h1 h2 h3 h4
  · simp only [if_true, if_false, Bool.true_eq_false]; exact open_closed p hL hO h1 h2
theorem ack_any (p : P5) (a : ByteArray) (hT : Sha.Tab w) (hL : LG w E M N s) (hO : LG w E2 M2 N2 s2) (hp : p.ok) (ha : a.size ≤ 1000000) (hk : 0 ≤ s.ak) (hc : (lk p.s s.cm).isSome = true → p.s < 18446744073709551615) :
    Calls Tryz.prog 12 #[.pointer (some ⟨E, 0, none⟩), pkv p, .string a, .pointer (some ⟨E2, 0, none⟩)] w fun e w' => e = .returned (.int .i64 (ackC s s2 p a)) ∧ LG w' E M N (ackT s s2 p a) ∧ FrL E M N w w' := by
  have errk : ∀ c, c ≠ 0 → ackC s s2 p a = c → (Calls Tryz.prog 12 #[.pointer (some ⟨E, 0, none⟩), pkv p, .string a, .pointer (some ⟨E2, 0, none⟩)] w fun e w' => e = .returned (.int .i64 c) ∧ Below w.heap.size w w') → Calls Tryz.prog 12 #[.pointer (some ⟨E, 0, none⟩), pkv p, .string a, .pointer (some ⟨E2, 0, none⟩)] w fun e w' => e = .returned (.int .i64 (ackC s s2 p a)) ∧ LG w' E M N (ackT s s2 p a) ∧ FrL E M N w w' := fun c hc he H => H.mono fun e w' ⟨h1, h2⟩ =>
    ⟨by rw [he]; exact h1, by unfold ackT; rw [he, if_neg hc]; exact hL.below h2, FrL.of_below h2⟩
  have hop := open_any (E := E) (M := M) (N := N) (s := s) (E2 := E2) (M2 := M2) (N2 := N2) (s2 := s2) p hp
  by_cases h0 : openC s p = 0
  · rw [h0] at hop
    have hcm : (lk p.s s.cm).isSome = true := by
      by_cases h3 : (lk p.s s.cm).isSome = true
      · exact h3
      · exfalso
        revert h0
        simp only [Bool.not_eq_true] at h3
        unfold openC
        rw [h3]
        split
        · decide
        · split
          · decide
          · simp
    cases h1 : (lk p.s s2.ac).isSome
    · exact errk 18 (by decide) (by simp [ackC, h0, h1]) (ack_none p a hT hL hO hop h1)
    · by_cases h2 : sumOf p.s s2.ac = ackP a
      · cases h3 : s.o
        · have hz : ackC s s2 p a = 0 := by simp [ackC, h0, h1, h2, h3]
          refine (ack_un p a hT hL hO hop ha h1 h2 h3).mono fun e w' ⟨e1, e2, e3⟩ => ⟨?_, ?_, e3⟩
          · rw [hz]; exact e1
          · unfold ackT; rw [hz, if_pos rfl, h3]; exact e2
        · by_cases h4 : p.s = s.ak
          · have hz : ackC s s2 p a = 0 := by unfold ackC; rw [if_neg (by simp [h0]), if_neg (by simp [h1]), if_neg (by simp [h2]), if_neg (fun k => k.2 h4)]
            have h9 := hc hcm
            refine (ack_or p a hT hL hO hop ha h1 h2 h3 (by simp [h4]) hk (by omega)).mono fun e w' ⟨e1, e2, e3⟩ => ⟨?_, ?_, e3⟩
            · rw [hz]; exact e1
            · unfold ackT; rw [hz, if_pos rfl, h3]; exact e2
          · exact errk 19 (by decide) (by simp [ackC, h0, h1, h2, h3, h4]) (ack_order p a hT hL hO hop ha h1 h2 h3 (by simp [h4]))
      · exact errk 18 (by decide) (by simp [ackC, h0, h1, h2]) (ack_other p a hT hL hO hop ha h1 h2)
  · exact errk _ h0 (by simp [ackC, h0]) (ack_err p a hT hL hO _ (by simpa using h0) hop)
theorem tmo_any (p : P5) (h : Int) (hT : Sha.Tab w) (hL : LG w E M N s) (hO : LG w E2 M2 N2 s2) (hp : p.ok) :
    Calls Tryz.prog 14 #[.pointer (some ⟨E, 0, none⟩), pkv p, .int .u64 h, .pointer (some ⟨E2, 0, none⟩)] w fun e w' => e = .returned (.int .i64 (tmoC s s2 p h)) ∧ LG w' E M N (tmoS s s2 p h) ∧ FrL E M N w w' := by
  have errk : ∀ c, c ≠ 0 → tmoC s s2 p h = c → (Calls Tryz.prog 14 #[.pointer (some ⟨E, 0, none⟩), pkv p, .int .u64 h, .pointer (some ⟨E2, 0, none⟩)] w fun e w' => e = .returned (.int .i64 c) ∧ Below w.heap.size w w') → Calls Tryz.prog 14 #[.pointer (some ⟨E, 0, none⟩), pkv p, .int .u64 h, .pointer (some ⟨E2, 0, none⟩)] w fun e w' => e = .returned (.int .i64 (tmoC s s2 p h)) ∧ LG w' E M N (tmoS s s2 p h) ∧ FrL E M N w w' := fun c hc he H => H.mono fun e w' ⟨h1, h2⟩ =>
    ⟨by rw [he]; exact h1, by unfold tmoS; rw [he, if_neg hc]; exact hL.below h2, FrL.of_below h2⟩
  have hop := open_any (E := E) (M := M) (N := N) (s := s) (E2 := E2) (M2 := M2) (N2 := N2) (s2 := s2) p hp
  by_cases h0 : openC s p = 0
  · rw [h0] at hop
    cases h1 : lateB p h
    · exact errk 21 (by decide) (by simp [tmoC, h0, h1]) (tmo_early p h hT hL hO hop h1)
    · cases h2 : (lk p.s s2.ac).isSome
      · have hz : tmoC s s2 p h = 0 := by simp [tmoC, h0, h1, h2]
        refine (tmo_ok p h hT hL hO hop h1 h2).mono fun e w' ⟨e1, e2, e3⟩ => ⟨?_, ?_, e3⟩
        · rw [hz]; exact e1
        · unfold tmoS; rw [hz, if_pos rfl]; exact e2
      · exact errk 10 (by decide) (by simp [tmoC, h0, h1, h2]) (tmo_state p h hT hL hO hop h1 h2)
  · exact errk _ h0 (by simp [tmoC, h0]) (tmo_err p h hT hL hO _ (by simpa using h0) hop)
end
end Go.Proofs.YtdljphbfbiganaaGreatDoor.Lg
/- The page's line: rows of notes; Find, Late, ours. -/
namespace Go.Proofs.YtdljphbfbiganaaGreatDoor.Pl
open Go Go.RowKit Packet Mg Lg Ln
set_option linter.unusedVariables false

abbrev TNt : Nat := 62
abbrev TRl : Nat := 54
abbrev TA3 : Nat := 57
/-- a note's cells -/
def ncl (q : Int × Array Value) : Array Value := #[.int .u64 q.1] ++ q.2
def nct (L : List (Int × Array Value)) : List Value := L.flatMap fun q => (ncl q).toList
def AllOk (L : List (Int × Array Value)) : Prop := ∀ x ∈ L, SumOk x.2
theorem ncl_zero (q : Int × Array Value) : (ncl q)[0]? = some (.int .u64 q.1) := by unfold ncl; rw [Array.getElem?_append_left (by simp)]; rfl
theorem ncl_size {q : Int × Array Value} (h : SumOk q.2) : (ncl q).size = 33 := by unfold ncl; rw [Array.size_append, h.1]; rfl
theorem nct_snoc (L : List (Int × Array Value)) (q : Int × Array Value) : nct (L ++ [q]) = nct L ++ (ncl q).toList := by simp [nct]
theorem nct_at : ∀ (K : List (Int × Array Value)) (_ : AllOk K) (i : Nat) (h : i < K.length) (j : Nat), j < 33 → (nct K)[i * 33 + j]? = (ncl K[i])[j]?
  | q :: K, ho, 0, _, j, hj => by
    show ((ncl q).toList ++ nct K)[0 * 33 + j]? = _
    have hs := ncl_size (ho q (by simp))
    rw [List.getElem?_append_left (by rw [Array.length_toList, hs]; omega), Nat.zero_mul, Nat.zero_add, Array.getElem?_toList]
    rfl
  | q :: K, ho, i + 1, h, j, hj => by
    show ((ncl q).toList ++ nct K)[(i + 1) * 33 + j]? = _
    have hs := ncl_size (ho q (by simp))
    rw [List.getElem?_append_right (by rw [Array.length_toList, hs]; omega)]
    have := nct_at K (fun x hx => ho x (List.mem_cons_of_mem _ hx)) i (by simpa using h) j hj
    rw [show (i + 1) * 33 + j - (ncl q).toList.length = i * 33 + j by rw [Array.length_toList, hs]; omega, this]
    rfl
abbrev OwnT (b0 : Nat) (V : World) (A : Option Addr) (m c : Nat) (L : List (Int × Array Value)) : Prop := V.ownsRow b0 TNt 33 (.slice A m c) L.length (nct L) ∧ m = L.length
/-- notes that are read -/
structure RdT (V : World) (A : Option Addr) (len : Nat) (L : List (Int × Array Value)) : Prop where
  many : L.length = len
  ok : AllOk L
  cells : 0 < len → ∃ b off, A = some ⟨b, off, none⟩ ∧ b < V.heap.size ∧ ∀ i (h : i < L.length) (j : Nat), j < 33 → V.cell? ⟨b, off + i * 33 + j, none⟩ = (ncl L[i])[j]?
theorem own_cellT {b0 : Nat} {V : World} {A : Option Addr} {m c : Nat} {L : List (Int × Array Value)} (h : OwnT b0 V A m c L) : ∀ k, (Value.slice A m c).ownBlock = some k → ∃ cur, V.heap[k]? = some (.cells cur TNt (0, 0)) := by
  intro k hk
  rcases h.1.2 with ⟨h2, _⟩ | ⟨g, cap, cur, hv, hg, hh, _⟩
  · rw [h2] at hk; cases hk
  · rw [hv] at hk
    injection hk with hk
    subst hk
    exact ⟨cur, hh⟩
theorem own_eqT {b0 : Nat} {V V' : World} {A : Option Addr} {m c : Nat} {L : List (Int × Array Value)} (h : OwnT b0 V A m c L) (hb : ∀ k, (Value.slice A m c).ownBlock = some k → V'.heap[k]? = V.heap[k]?) : OwnT b0 V' A m c L := by
  refine ⟨⟨h.1.1, ?_⟩, h.2⟩
  rcases h.1.2 with h2 | ⟨g, cap, cur, hv, hg, hh, r⟩
  · exact .inl h2
  · exact .inr ⟨g, cap, cur, hv, hg, (hb g (by rw [hv]; rfl)).trans hh, r⟩
theorem own_rdT {b0 : Nat} {V : World} {A : Option Addr} {m c : Nat} {L : List (Int × Array Value)} (h : OwnT b0 V A m c L) (ho : AllOk L) : RdT V A m L := by
  obtain ⟨h, hm⟩ := h
  refine ⟨hm.symm, ho, fun hn => ?_⟩
  rcases h.2 with ⟨_, h0⟩ | ⟨g, cap, cur, hv, hg, hh, hnc, hcm, hcs, ht⟩
  · omega
  · injection hv with hv1 hv2 hv3
    subst hv1
    refine ⟨g, 0, rfl, lt_of hh, fun i hi j hj => ?_⟩
    rw [Nat.zero_add, cell_of_row V g (i * 33 + j) cur _ (0, 0) hh]
    have := congrArg (fun z : List Value => z[i * 33 + j]?) ht
    simp only [nct_at L ho i hi j hj] at this
    rw [List.getElem?_take, if_pos (by omega), Array.getElem?_toList] at this
    exact this
theorem RdT.below {V V' : World} {A : Option Addr} {len : Nat} {L : List (Int × Array Value)} (h : RdT V A len L) (hb : Below V.heap.size V V') : RdT V' A len L :=
  ⟨h.many, h.ok, fun hl => by
    obtain ⟨b, off, e1, e2, e3⟩ := h.cells hl
    exact ⟨b, off, e1, Nat.lt_of_lt_of_le e2 hb.size, fun i hi j hj => (World.cell?_of_block (a := ⟨b, off + i * 33 + j, none⟩) (hb.block b e2)).trans (e3 i hi j hj)⟩⟩
/-- a note's sum, in the middle -/
theorem ncl_sum {q : Int × Array Value} {V : World} {b o : Nat} (h : ∀ j, j < 33 → V.cell? ⟨b, o + j, none⟩ = (ncl q)[j]?) (hs : SumOk q.2) : V.rangeAt b (o + 1) q.2.toList := by
  intro j v hv
  rw [Array.getElem?_toList] at hv
  have hj : j < 32 := by have := (Array.getElem?_eq_some_iff.1 hv).1; rw [hs.1] at this; exact this
  have := h (j + 1) (by omega)
  rw [show o + (j + 1) = o + 1 + j by omega] at this
  rw [this]
  unfold ncl
  rw [Array.getElem?_append_right (by simp)]
  simpa using hv
theorem ncl_all {q : Int × Array Value} {V : World} {b o : Nat} (h : ∀ j, j < 33 → V.cell? ⟨b, o + j, none⟩ = (ncl q)[j]?) (hs : SumOk q.2) : V.rangeAt b o (ncl q).toList := by
  intro j v hv
  rw [Array.getElem?_toList] at hv
  have hj : j < 33 := by have := (Array.getElem?_eq_some_iff.1 hv).1; rw [ncl_size hs] at this; exact this
  exact (h j hj).trans hv
theorem lk_first : ∀ (L : List (Int × Array Value)) (k : Int) (i : Nat) (h : i < L.length), (∀ j (hj : j < L.length), j < i → (L[j]).1 ≠ k) → (L[i]).1 = k → lk k L = some (L[i]).2
  | x :: L, k, 0, _, _, he => by unfold lk; rw [if_pos (by simpa using he.symm)]; rfl
  | x :: L, k, i + 1, h, hb, he => by
    unfold lk
    rw [if_neg (by have := hb 0 (by simp) (by omega); simpa using fun e => this e.symm)]
    exact lk_first L k i (by simpa using h) (fun j hj hji => by have := hb (j + 1) (by simpa using hj) (by omega); simpa using this) (by simpa using he)
theorem lk_noneT : ∀ (L : List (Int × Array Value)) (k : Int), (∀ j (hj : j < L.length), (L[j]).1 ≠ k) → lk k L = none
  | [], _, _ => rfl
  | x :: L, k, hb => by
    unfold lk
    rw [if_neg (by have := hb 0 (by simp); simpa using fun e => this e.symm)]
    exact lk_noneT L k (fun j hj => by have := hb (j + 1) (by simpa using hj); simpa using this)
/-- where a number's note stands first -/
def FndP (e : Ending) (k : Int) (L : List (Int × Array Value)) : Prop := ∃ z : Int, e = .returned (.int .i64 z) ∧ ((∃ i : Nat, ∃ h : i < L.length, z = (i : Int) ∧ (L[i]).1 = k ∧ lk k L = some (L[i]).2 ∧ ∀ j (hj : j < L.length), j < i → (L[j]).1 ≠ k) ∨ (z = -1 ∧ lk k L = none))
set_option maxRecDepth 20000 in
set_option maxHeartbeats 4000000 in
theorem find_any (A : Option Addr) (len cap : Nat) (L : List (Int × Array Value)) (k : Int) (W : World) (hq : RdT W A len L) (hl : len ≤ 1000000) :
    Calls Tryz.prog 28 #[.slice A len cap, .int .u64 k] W fun e w' => FndP e k L ∧ w' = W := by
  have HQ := Lib.hid hq
  clear hq
  go_enter Tryz.func28, Tryz.ntmps28
  go_wp2
  go_loopw [5] (fun v wr => ∃ i : Nat, v = .int .i64 (i : Int) ∧ i ≤ len ∧ Hid (wr = W ∧ ∀ j (hj : j < L.length), j < i → (L[j]).1 ≠ k)) (fun v _ => len - (intOf v).toNat)
  case atStart => exact ⟨0, rfl, Nat.zero_le _, Lib.hid ⟨rfl, fun j _ h => absurd h (by omega)⟩⟩
  case round =>
    obtain ⟨i, rfl, hi, HA⟩ := hrel
    obtain rfl := HA.out.1
    by_cases hlt : i < len
    · have hi0 : (0 : Int) ≤ (i : Int) := by omega
      have hi1 : (i : Int) < (len : Int) := by omega
      obtain ⟨b9, off, hAq, hbl, hcs⟩ := HQ.out.cells (by omega)
      have hlq : i < L.length := by have := HQ.out.many; omega
      have q0 : wr.cell? ⟨b9, off + i * 33, none⟩ = some (.int .u64 (L[i]).1) := (hcs i hlq 0 (by decide)).trans (ncl_zero _)
      subst hAq
      obtain ⟨n, hn⟩ : ∃ n, n = (L[i]).1 := ⟨_, rfl⟩
      rw [← hn] at q0
      have HN := Lib.hid hn
      have HLq := Lib.hid hlq
      clear hcs hbl hn
      by_cases hk : n = k
      · have e1 : (n == k) = true := by simp [hk]
        have HK := Lib.hid hk
        clear hk
        go_wp2
        go_ret
        exact ⟨⟨_, rfl, .inl ⟨i, HLq.out, rfl, HN.out.symm.trans HK.out, lk_first L k i HLq.out HA.out.2 (HN.out.symm.trans HK.out), HA.out.2⟩⟩, rfl⟩
      · have e1 : (n == k) = false := by simp [hk]
        have HK := Lib.hid hk
        clear hk
        go_wp2
        go_roundw
        case rel => exact ⟨i + 1, by go_num, by omega, Lib.hid ⟨by first | rfl | trivial, fun j hj hji => by
          by_cases e : j = i
          · subst e; rw [← HN.out]; exact HK.out
          · exact HA.out.2 j hj (by omega)⟩⟩
        case measure => simp [intOf]; omega
    · obtain rfl : i = len := by omega
      have hii : ¬ ((i : Int) < (i : Int)) := by omega
      have hno : lk k L = none := lk_noneT L k fun j hj => HA.out.2 j hj (by have := HQ.out.many; omega)
      have HNo := Lib.hid hno
      clear hno
      go_wp2
      go_ret
      exact ⟨⟨_, rfl, .inr ⟨rfl, HNo.out⟩⟩, rfl⟩
set_option maxRecDepth 20000 in
theorem plate_any (p : P5) (h : Int) (w : World) (ht : 0 ≤ p.t) : Calls Tryz.prog 23 #[pkv p, .int .u64 h] w fun e w' => e = .returned (.bool (lateB p h)) ∧ Below w.heap.size w w' := by
  have hl : lateB p h = ((p.t != 0) && decide (p.t ≤ h)) := by
    unfold lateB
    by_cases h1 : p.t = 0
    · simp [h1]
    · have h3 : 0 < p.t := by omega
      have h4 : (p.t != 0) = true := by simp [h1]
      rw [h4, Bool.true_and]
      by_cases h2 : p.t ≤ h <;> simp [h2, h3]
  obtain ⟨b, hb⟩ : ∃ b, b = lateB p h := ⟨_, rfl⟩
  rw [← hb] at hl ⊢
  clear hb
  by_cases h1 : p.t = 0
  · have e1 : (p.t != 0) = false := by simp [h1]
    rw [e1, Bool.false_and] at hl
    subst hl
    clear h1 ht
    go_enter Tryz.func23, Tryz.ntmps23
    go_wp2
    go_ret
    exact ⟨rfl, (Below.refl _ _).alloc (Nat.le_refl _) _⟩
  · have e1 : (p.t != 0) = true := by simp [h1]
    rw [e1, Bool.true_and] at hl
    have HL := Lib.hid hl
    clear hl h1 ht
    go_enter Tryz.func23, Tryz.ntmps23
    go_wp2
    go_ret
    exact ⟨by rw [HL.out] <;> rfl, (Below.refl _ _).alloc (Nat.le_refl _) _⟩
/-- the page's end in block B -/
structure PN (b0 : Nat) (V : World) (B : Nat) (s : St) (Ac : Option Addr) (mc cc : Nat) (Aa : Option Addr) (ma ca : Nat) : Prop where
  box : V.heap[B]? = some (.cells #[.int .i64 s.ch, .int .i64 s.sd, .bool s.o, .bool s.cl, .int .u64 s.sn, .int .u64 s.rc, .int .u64 s.ak, .slice Ac mc cc, .slice Aa ma ca] TRl (0, 0))
  rc : OwnT b0 V Ac mc cc s.cm
  ra : OwnT b0 V Aa ma ca s.ac
  d : ∀ k, (Value.slice Ac mc cc).ownBlock = some k → (Value.slice Aa ma ca).ownBlock ≠ some k
  cok : AllOk s.cm
  aok : AllOk s.ac
section
variable {b0 : Nat} {W V : World} {B : Nat} {s : St} {Ac Aa : Option Addr} {mc cc ma ca : Nat}
theorem PN.lt (h : PN b0 W B s Ac mc cc Aa ma ca) : B < W.heap.size := lt_of h.box
theorem PN.of_eq (h : PN b0 W B s Ac mc cc Aa ma ca) (hb : ∀ k cs t q, W.heap[k]? = some (Obj.cells cs t q) → (k = B ∨ t = TNt) → V.heap[k]? = W.heap[k]?) : PN b0 V B s Ac mc cc Aa ma ca :=
  ⟨(hb B _ _ _ h.box (.inl rfl)).trans h.box, own_eqT h.rc fun k hk => by obtain ⟨cur, hc⟩ := own_cellT h.rc k hk; exact hb k _ _ _ hc (.inr rfl), own_eqT h.ra fun k hk => by obtain ⟨cur, hc⟩ := own_cellT h.ra k hk; exact hb k _ _ _ hc (.inr rfl), h.d, h.cok, h.aok⟩
theorem PN.below (h : PN b0 W B s Ac mc cc Aa ma ca) (hb : Below W.heap.size W V) : PN b0 V B s Ac mc cc Aa ma ca := h.of_eq fun k _ _ _ hk _ => hb.block k (lt_of hk)
theorem PN.cells (h : PN b0 W B s Ac mc cc Aa ma ca) : W.cell? ⟨B, 0, none⟩ = some (.int .i64 s.ch) ∧ W.cell? ⟨B, 1, none⟩ = some (.int .i64 s.sd) ∧ W.cell? ⟨B, 2, none⟩ = some (.bool s.o) ∧ W.cell? ⟨B, 3, none⟩ = some (.bool s.cl) ∧ W.cell? ⟨B, 4, none⟩ = some (.int .u64 s.sn) ∧ W.cell? ⟨B, 5, none⟩ = some (.int .u64 s.rc) ∧ W.cell? ⟨B, 6, none⟩ = some (.int .u64 s.ak) ∧ W.cell? ⟨B, 7, none⟩ = some (.slice Ac mc cc) ∧ W.cell? ⟨B, 8, none⟩ = some (.slice Aa ma ca) ∧ (∀ i, W.frozen? ⟨B, i, none⟩ = false) :=
  ⟨cell_of_row W B 0 _ _ (0, 0) h.box, cell_of_row W B 1 _ _ (0, 0) h.box, cell_of_row W B 2 _ _ (0, 0) h.box, cell_of_row W B 3 _ _ (0, 0) h.box, cell_of_row W B 4 _ _ (0, 0) h.box, cell_of_row W B 5 _ _ (0, 0) h.box, cell_of_row W B 6 _ _ (0, 0) h.box, cell_of_row W B 7 _ _ (0, 0) h.box, cell_of_row W B 8 _ _ (0, 0) h.box, fun i => by simp [World.frozen?, h.box]⟩
/-- the packet's box, and the page's end -/
def QL (w : World) (b : Nat) (p : P5) (b0 B : Nat) (s : St) (Ac : Option Addr) (mc cc : Nat) (Aa : Option Addr) (ma ca : Nat) (W : World) : Prop := Below w.heap.size w W ∧ PkB W b p ∧ PN b0 W B s Ac mc cc Aa ma ca
variable {w : World} {b : Nat} {p : P5}
theorem QL.drew (h : QL w b p b0 B s Ac mc cc Aa ma ca W) : QL w b p b0 B s Ac mc cc Aa ma ca W.drew := ⟨h.1.drew, h.2.1, h.2.2.below (Below.refl _ _).drew⟩
theorem QL.call (h : QL w b p b0 B s Ac mc cc Aa ma ca W) (hb : Below W.heap.size W V) : QL w b p b0 B s Ac mc cc Aa ma ca V := ⟨h.1.trans (hb.mono h.1.size), h.2.1.below hb, h.2.2.below hb⟩
theorem QL.new (h : PN b0 w B s Ac mc cc Aa ma ca) : QL w w.heap.size p b0 B s Ac mc cc Aa ma ca (w.alloc (.cells #[.int .i64 p.c, .int .i64 p.f, .int .u64 p.s, .int .u64 p.t, .string p.d] TPk)) :=
  have hb : Below w.heap.size w (w.alloc (.cells #[.int .i64 p.c, .int .i64 p.f, .int .u64 p.s, .int .u64 p.t, .string p.d] TPk)) := (Below.refl _ _).alloc (Nat.le_refl _) _
  ⟨hb, heap_alloc_new w _, h.below hb⟩
end
end Go.Proofs.YtdljphbfbiganaaGreatDoor.Pl
