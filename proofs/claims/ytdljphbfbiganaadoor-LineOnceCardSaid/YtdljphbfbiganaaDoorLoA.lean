import Derived.Test.YtdljphbfbiganaaDoorLgRecv
import Derived.Test.YtdljphbfbiganaaDoorLgSent
import Derived.Test.YtdljphbfbiganaaDoorCommon
import Derived.Deep.CutBlock
import Derived.Deep.DeepCutAuto
import Derived.Deep.AppendLies
/- 'LineOnce', sums: what holds of two ends and of three rows of keys from act to act. -/
namespace Go.Proofs.YtdljphbfbiganaaDoor.Lo
open Go Packet Mg Lg

/-- of the packets that are sent at side x: s is the end there, t the other one; got, gone, ex: rows of (side, number) -/
structure Sd (x : Int) (s t : St) (got gone ex : List (Int × Int)) (o : Bool) : Prop where
  cg : ∀ n, (lk n s.cm).isSome = true → (x, n) ∉ gone ∧ n < s.sn
  gg : ∀ n, (x, n) ∈ got ↔ (lk n t.ac).isSome = true
  gn : ∀ n, (x, n) ∈ gone → n < s.sn
  eg : ∀ n, (x, n) ∈ ex → (x, n) ∈ gone
  od : o = true → ∀ n, 1 ≤ n → n < t.rc → (lk n t.ac).isSome = true
  nd : (s.cm.map (·.1)).Nodup
theorem is_ins {k n : Int} {v : Array Value} {M : List (Int × Array Value)} : (lk n (ins k v M)).isSome = true ↔ n = k ∨ (lk n M).isSome = true := by
  rw [lk_ins]
  by_cases h : n = k <;> simp [h]
theorem is_del {k n : Int} {M : List (Int × Array Value)} (hn : (M.map (·.1)).Nodup) : (lk n (del k M)).isSome = true ↔ n ≠ k ∧ (lk n M).isSome = true := by
  rw [lk_del k n hn]
  by_cases h : n = k <;> simp [h]
variable {x y : Int} {s t : St} {got gone ex : List (Int × Int)} {o : Bool} {p : P5}
/-- two new ends -/
theorem Sd.new (hs : s.cm = []) (ht : t.ac = []) (hr : t.rc = 1) : Sd x s t [] [] [] o where
  cg n h := by rw [hs] at h; cases h
  gg n := by rw [ht]; simp [lk]
  gn n h := by cases h
  eg n h := by cases h
  od _ n h1 h2 := by omega
  nd := by rw [hs]; exact List.nodup_nil
/-- a packet is sent at s: its own side -/
theorem Sd.sent (h : Sd x s t got gone ex o) : Sd x (sentS p s) t got gone ex o where
  cg n hn := by
    rcases is_ins.1 hn with rfl | hn
    · exact ⟨fun hg => by have := h.gn _ hg; omega, by show s.sn < s.sn + 1; omega⟩
    · exact ⟨(h.cg n hn).1, by have := (h.cg n hn).2; show n < s.sn + 1; omega⟩
  gg := h.gg
  gn n hg := by have := h.gn n hg; show n < s.sn + 1; omega
  eg := h.eg
  od := h.od
  nd := nodup_ins h.nd
/-- .. and the other side -/
theorem Sd.sent' (h : Sd x s t got gone ex o) : Sd x s (sentS p t) got gone ex o := ⟨h.cg, h.gg, h.gn, h.eg, h.od, h.nd⟩
/-- a packet of side x is received at t, in no order -/
theorem Sd.recU (h : Sd x s t got gone ex false) : Sd x s (recU p t) (got ++ [(x, p.s)]) gone ex false where
  cg := h.cg
  gg n := by
    rw [List.mem_append, List.mem_singleton]
    refine Iff.trans ?_ is_ins.symm
    rw [h.gg n]
    constructor
    · rintro (h | h)
      · exact .inr h
      · injection h with _ h; exact .inl h
    · rintro (h | h)
      · exact .inr (by rw [h])
      · exact .inl h
  gn := h.gn
  eg := h.eg
  od k := by cases k
  nd := h.nd
/-- .. in order -/
theorem Sd.recO (h : Sd x s t got gone ex o) (hp : p.s = t.rc) : Sd x s (recO p t) (got ++ [(x, p.s)]) gone ex o where
  cg := h.cg
  gg n := by
    rw [List.mem_append, List.mem_singleton]
    refine Iff.trans ?_ is_ins.symm
    rw [h.gg n]
    constructor
    · rintro (h | h)
      · exact .inr h
      · injection h with _ h; exact .inl h
    · rintro (h | h)
      · exact .inr (by rw [h])
      · exact .inl h
  gn := h.gn
  eg := h.eg
  od k n h1 h2 := by
    refine is_ins.2 ?_
    by_cases e : n = p.s
    · exact .inl e
    · refine .inr (h.od k n h1 ?_)
      have h2 : n < t.rc + 1 := h2
      omega
  nd := h.nd
/-- .. the other side's packets (their end is s now) -/
theorem Sd.rec' (h : Sd x s t got gone ex o) (hxy : x ≠ y) (s' : St) (h1 : s'.cm = s.cm) (h2 : s'.sn = s.sn) (n : Int) : Sd x s' t (got ++ [(y, n)]) gone ex o where
  cg n hn := by rw [h1] at hn; rw [h2]; exact h.cg n hn
  gg k := by
    rw [List.mem_append, List.mem_singleton, ← h.gg k]
    exact ⟨fun h => h.elim id (fun e => by injection e with e; exact absurd e hxy), .inl⟩
  gn n hn := by rw [h2]; exact h.gn n hn
  eg := h.eg
  od := h.od
  nd := by rw [h1]; exact h.nd
/-- what is asked of a packet that is received -/
theorem Sd.asked (h : Sd x s t got gone ex o) (hc : (lk p.s s.cm).isSome = true) (hr : (lk p.s t.ac).isSome = false) (ho : o = true → p.s = t.rc) :
    (x, p.s) ∉ got ∧ (x, p.s) ∉ ex ∧ (o = true → 1 < p.s → (x, p.s - 1) ∈ got) := by
  refine ⟨fun hg => ?_, fun he => (h.cg _ hc).1 (h.eg _ he), fun k h1 => ?_⟩
  · rw [(h.gg _).1 hg] at hr; cases hr
  · exact (h.gg _).2 (h.od k _ (by omega) (by have := ho k; omega))
/-- a commitment goes -/
theorem Sd.goes (h : Sd x s t got gone ex o) (hc : (lk p.s s.cm).isSome = true) (s' : St) (h1 : s'.cm = del p.s s.cm) (h2 : s'.sn = s.sn) : Sd x s' t got (gone ++ [(x, p.s)]) ex o where
  cg n hn := by
    rw [h1] at hn
    obtain ⟨hne, hn⟩ := (is_del h.nd).1 hn
    rw [List.mem_append, List.mem_singleton, h2]
    exact ⟨fun k => k.elim (h.cg n hn).1 (fun e => by injection e with _ e; exact hne e), (h.cg n hn).2⟩
  gg := h.gg
  gn n hn := by
    rw [List.mem_append, List.mem_singleton] at hn
    rw [h2]
    rcases hn with hn | hn
    · exact h.gn n hn
    · injection hn with _ hn; rw [hn]; exact (h.cg _ hc).2
  eg n hn := List.mem_append_left _ (h.eg n hn)
  od := h.od
  nd := by rw [h1]; exact nodup_del h.nd
/-- .. the other side's -/
theorem Sd.goes' (h : Sd x s t got gone ex o) (hxy : x ≠ y) (t' : St) (h1 : t'.ac = t.ac) (h2 : t'.rc = t.rc) (n : Int) : Sd x s t' got (gone ++ [(y, n)]) ex o where
  cg k hk := by
    rw [List.mem_append, List.mem_singleton]
    exact ⟨fun e => e.elim (h.cg k hk).1 (fun e => by injection e with e; exact hxy e), (h.cg k hk).2⟩
  gg k := by rw [h1]; exact h.gg k
  gn k hk := by
    rw [List.mem_append, List.mem_singleton] at hk
    exact hk.elim (h.gn k) (fun e => by injection e with e; exact absurd e hxy)
  eg k hk := List.mem_append_left _ (h.eg k hk)
  od k n a b := by rw [h1]; exact h.od k n a (by rw [← h2]; exact b)
  nd := h.nd
/-- what is gone may be told to have expired -/
theorem Sd.expire {n : Int} (h : Sd x s t got (gone ++ [(y, n)]) ex o) : Sd x s t got (gone ++ [(y, n)]) (ex ++ [(y, n)]) o where
  cg := h.cg
  gg := h.gg
  gn := h.gn
  eg k hk := by
    rcases List.mem_append.1 hk with hk | hk
    · exact h.eg k hk
    · exact List.mem_append_right _ hk
  od := h.od
  nd := h.nd
/-- what is asked of one that goes -/
theorem Sd.askedGone (h : Sd x s t got gone ex o) (hc : (lk p.s s.cm).isSome = true) : (x, p.s) ∉ gone ∧ ((x, p.s) ∈ got ↔ (lk p.s t.ac).isSome = true) := ⟨(h.cg _ hc).1, h.gg _⟩
end Go.Proofs.YtdljphbfbiganaaDoor.Lo
/- line: each operation of an end in whatever state, by its answer's number. -/
namespace Go.Proofs.YtdljphbfbiganaaDoor.Lg
open Go Go.RowKit Packet Ln Mg
set_option linter.unusedVariables false

open Classical in
noncomputable def sendC (s : St) (p : P5) (h : Int) : Int :=
  if fitG s p s.sd = false then 1 else if p.s ≠ 0 then 1 else if s.cl = true then 17 else if lateB p h = true then 20 else if s.sn = 18446744073709551615 then 11 else 0
open Classical in
noncomputable def sendS (s : St) (p : P5) (h : Int) : St := if sendC s p h = 0 then sentS p s else s
open Classical in
noncomputable def sendP (s : St) (p : P5) (h : Int) : P5 := if sendC s p h = 0 then pN p s else ⟨0, 0, 0, 0, ⟨#[]⟩⟩
open Classical in
noncomputable def recvC (s s2 : St) (p : P5) (x h : Int) : Int :=
  if fitG s p x = false then 1 else if s.cl = true then 17 else if (lk p.s s.ac).isSome = true then 15 else if lateB p h = true then 20 else if (lk p.s s2.cm).isSome = false then 18 else if sumOf p.s s2.cm ≠ sumP p then 18 else if s.o = true ∧ p.s ≠ s.rc then 19 else 0
open Classical in
noncomputable def recvS (s s2 : St) (p : P5) (x h : Int) : St := if recvC s s2 p x h = 0 then (if s.o = true then recO p s else recU p s) else s
open Classical in
noncomputable def recvT (s s2 : St) (p : P5) (x h : Int) : ByteArray := if recvC s s2 p x h = 0 then Sha.ackS p.d else ⟨#[]⟩
open Classical in
noncomputable def openC (s : St) (p : P5) : Int :=
  if fitG s p s.sd = false then 1 else if s.cl = true then 17 else if (lk p.s s.cm).isSome = false then 15 else if sumOf p.s s.cm ≠ sumP p then 18 else 0
open Classical in
noncomputable def ackC (s s2 : St) (p : P5) (a : ByteArray) : Int :=
  if openC s p ≠ 0 then openC s p else if (lk p.s s2.ac).isSome = false then 18 else if sumOf p.s s2.ac ≠ ackP a then 18 else if s.o = true ∧ p.s ≠ s.ak then 19 else 0
open Classical in
noncomputable def ackT (s s2 : St) (p : P5) (a : ByteArray) : St := if ackC s s2 p a = 0 then (if s.o = true then ackS p s else goneS p s) else s
open Classical in
noncomputable def tmoC (s s2 : St) (p : P5) (h : Int) : Int :=
  if openC s p ≠ 0 then openC s p else if lateB p h = false then 21 else if (lk p.s s2.ac).isSome = true then 10 else 0
open Classical in
noncomputable def tmoS (s s2 : St) (p : P5) (h : Int) : St := if tmoC s s2 p h = 0 then expS p s else s
def pval (p : P5) : Value := .agg #[.int .i64 p.c, .int .i64 p.f, .int .u64 p.s, .int .u64 p.t, .string p.d]
section
variable {w : World} {E M N E2 M2 N2 : Nat} {s s2 : St}
theorem send_any (p : P5) (h : Int) (hT : Sha.Tab w) (hL : LG w E M N s) (hp : p.ok) (hn : 0 ≤ s.sn ∧ s.sn ≤ 18446744073709551615) :
    Calls Tryd.prog 8 #[.pointer (some ⟨E, 0, none⟩), pkv p, .int .u64 h] w fun e w' => e = .returned (.tuple #[pval (sendP s p h), .int .i64 (sendC s p h)]) ∧ LG w' E M N (sendS s p h) ∧ FrL E M N w w' := by
  have errk : ∀ c, c ≠ 0 → sendC s p h = c → (Calls Tryd.prog 8 #[.pointer (some ⟨E, 0, none⟩), pkv p, .int .u64 h] w fun e w' => e = .returned (.tuple #[.agg #[.int .i64 0, .int .i64 0, .int .u64 0, .int .u64 0, .string ⟨#[]⟩], .int .i64 c]) ∧ Below w.heap.size w w') → Calls Tryd.prog 8 #[.pointer (some ⟨E, 0, none⟩), pkv p, .int .u64 h] w fun e w' => e = .returned (.tuple #[pval (sendP s p h), .int .i64 (sendC s p h)]) ∧ LG w' E M N (sendS s p h) ∧ FrL E M N w w' := fun c hc he H => H.mono fun e w' ⟨h1, h2⟩ =>
    ⟨by unfold sendP; rw [he, if_neg hc]; exact h1, by unfold sendS; rw [he, if_neg hc]; exact hL.below h2, FrL.of_below h2⟩
  cases h1 : fitG s p s.sd
  · exact errk 1 (by decide) (by simp [sendC, h1]) (send_unfit p h hL h1)
  by_cases h2 : p.s = 0
  · have h2' : (p.s != 0) = false := by simp [h2]
    cases h3 : s.cl
    · cases h4 : lateB p h
      · by_cases h5 : s.sn = 18446744073709551615
        · exact errk 11 (by decide) (by simp [sendC, h1, h2, h3, h4, h5]) (send_full p h hL h1 h2' h3 h4 (by simp [h5]))
        · have hz : sendC s p h = 0 := by simp [sendC, h1, h2, h3, h4, h5]
          refine (send_ok p h hL hp hT hn.1 (by omega) h1 h2' h3 h4).mono fun e w' ⟨e1, e2, e3⟩ => ⟨?_, ?_, e3⟩
          · unfold sendP; rw [hz, if_pos rfl]; exact e1
          · unfold sendS; rw [hz, if_pos rfl]; exact e2
      · exact errk 20 (by decide) (by simp [sendC, h1, h2, h3, h4]) (send_late p h hL h1 h2' h3 h4)
    · exact errk 17 (by decide) (by simp [sendC, h1, h2, h3]) (send_closed p h hL h1 h2' h3)
  · exact errk 1 (by decide) (by simp [sendC, h1, h2]) (send_seq p h hL h1 (by simp [h2]))
theorem recv_any (p : P5) (h x : Int) (hT : Sha.Tab w) (hL : LG w E M N s) (hO : LG w E2 M2 N2 s2) (hp : p.ok) (hx : IntKind.i64.wrap (1 - s.sd) = x) (hr : 0 ≤ s.rc) (hc : (lk p.s s2.cm).isSome = true → p.s < 18446744073709551615) :
    Calls Tryd.prog 9 #[.pointer (some ⟨E, 0, none⟩), pkv p, .int .u64 h, .pointer (some ⟨E2, 0, none⟩)] w fun e w' => e = .returned (.tuple #[.string (recvT s s2 p x h), .int .i64 (recvC s s2 p x h)]) ∧ LG w' E M N (recvS s s2 p x h) ∧ FrL E M N w w' := by
  have errk : ∀ c, c ≠ 0 → recvC s s2 p x h = c → (Calls Tryd.prog 9 #[.pointer (some ⟨E, 0, none⟩), pkv p, .int .u64 h, .pointer (some ⟨E2, 0, none⟩)] w fun e w' => e = .returned (.tuple #[.string ⟨#[]⟩, .int .i64 c]) ∧ Below w.heap.size w w') → Calls Tryd.prog 9 #[.pointer (some ⟨E, 0, none⟩), pkv p, .int .u64 h, .pointer (some ⟨E2, 0, none⟩)] w fun e w' => e = .returned (.tuple #[.string (recvT s s2 p x h), .int .i64 (recvC s s2 p x h)]) ∧ LG w' E M N (recvS s s2 p x h) ∧ FrL E M N w w' := fun c hc he H => H.mono fun e w' ⟨h1, h2⟩ =>
    ⟨by unfold recvT; rw [he, if_neg hc]; exact h1, by unfold recvS; rw [he, if_neg hc]; exact hL.below h2, FrL.of_below h2⟩
  cases h1 : fitG s p x
  · exact errk 1 (by decide) (by simp [recvC, h1]) (recv_unfit p h x hT hL hO hx h1)
  cases h2 : s.cl
  · cases h3 : (lk p.s s.ac).isSome
    · cases h4 : lateB p h
      · cases h5 : (lk p.s s2.cm).isSome
        · exact errk 18 (by decide) (by simp [recvC, h1, h2, h3, h4, h5]) (recv_none p h x hT hL hO hx h1 h2 h3 h4 h5)
        · by_cases h6 : sumOf p.s s2.cm = sumP p
          · cases h7 : s.o
            · have hz : recvC s s2 p x h = 0 := by simp [recvC, h1, h2, h3, h4, h5, h6, h7]
              refine (recv_un p h x hT hL hO hx h1 h2 h3 h4 h5 hp h6 h7).mono fun e w' ⟨e1, e2, e3⟩ => ⟨?_, ?_, e3⟩
              · unfold recvT; rw [hz, if_pos rfl]; exact e1
              · unfold recvS; rw [hz, if_pos rfl, h7]; exact e2
            · by_cases h8 : p.s = s.rc
              · have hz : recvC s s2 p x h = 0 := by unfold recvC; rw [if_neg (by simp [h1]), if_neg (by simp [h2]), if_neg (by simp [h3]), if_neg (by simp [h4]), if_neg (by simp [h5]), if_neg (by simp [h6]), if_neg (fun k => k.2 h8)]
                have h9 := hc h5
                refine (recv_or p h x hT hL hO hx h1 h2 h3 h4 h5 hp h6 h7 (by simp [h8]) hr (by omega)).mono fun e w' ⟨e1, e2, e3⟩ => ⟨?_, ?_, e3⟩
                · unfold recvT; rw [hz, if_pos rfl]; exact e1
                · unfold recvS; rw [hz, if_pos rfl, h7]; exact e2
              · exact errk 19 (by decide) (by simp [recvC, h1, h2, h3, h4, h5, h6, h7, h8]) (recv_order p h x hT hL hO hx h1 h2 h3 h4 h5 hp h6 h7 (by simp [h8]))
          · exact errk 18 (by decide) (by simp [recvC, h1, h2, h3, h4, h5, h6]) (recv_other p h x hT hL hO hx h1 h2 h3 h4 h5 hp h6)
      · exact errk 20 (by decide) (by simp [recvC, h1, h2, h3, h4]) (recv_late p h x hT hL hO hx h1 h2 h3 h4)
    · exact errk 15 (by decide) (by simp [recvC, h1, h2, h3]) (recv_red p h x hT hL hO hx h1 h2 h3)
  · exact errk 17 (by decide) (by simp [recvC, h1, h2]) (recv_closed p h x hT hL hO hx h1 h2)
theorem open_any (p : P5) (hp : p.ok) : OpIs p E M N s E2 M2 N2 s2 (openC s p) := fun W hT hL hO => by
  unfold openC
  cases h1 : fitG s p s.sd
  · simp only [if_true]; exact open_unfit p hL hO h1
  cases h2 : s.cl
  · cases h3 : (lk p.s s.cm).isSome
    · simp only [if_true, if_false, Bool.true_eq_false, Bool.false_eq_true]; exact open_none p hL hO h1 h2 h3
    · by_cases h4 : sumOf p.s s.cm = sumP p
      · simp only [if_false, Bool.true_eq_false, Bool.false_eq_true, h4, ne_eq, not_true_eq_false]; exact open_ok p hL hO hp hT h1 h2 h3 h4
      · simp only [if_true, if_false, Bool.true_eq_false, Bool.false_eq_true, ne_eq, h4, not_false_eq_true]; exact open_other p hL hO hp hT h1 h2 h3 h4
  · simp only [if_true, if_false, Bool.true_eq_false]; exact open_closed p hL hO h1 h2
theorem ack_any (p : P5) (a : ByteArray) (hT : Sha.Tab w) (hL : LG w E M N s) (hO : LG w E2 M2 N2 s2) (hp : p.ok) (ha : a.size ≤ 1000000) (hk : 0 ≤ s.ak) (hc : (lk p.s s.cm).isSome = true → p.s < 18446744073709551615) :
    Calls Tryd.prog 11 #[.pointer (some ⟨E, 0, none⟩), pkv p, .string a, .pointer (some ⟨E2, 0, none⟩)] w fun e w' => e = .returned (.int .i64 (ackC s s2 p a)) ∧ LG w' E M N (ackT s s2 p a) ∧ FrL E M N w w' := by
  have errk : ∀ c, c ≠ 0 → ackC s s2 p a = c → (Calls Tryd.prog 11 #[.pointer (some ⟨E, 0, none⟩), pkv p, .string a, .pointer (some ⟨E2, 0, none⟩)] w fun e w' => e = .returned (.int .i64 c) ∧ Below w.heap.size w w') → Calls Tryd.prog 11 #[.pointer (some ⟨E, 0, none⟩), pkv p, .string a, .pointer (some ⟨E2, 0, none⟩)] w fun e w' => e = .returned (.int .i64 (ackC s s2 p a)) ∧ LG w' E M N (ackT s s2 p a) ∧ FrL E M N w w' := fun c hc he H => H.mono fun e w' ⟨h1, h2⟩ =>
    ⟨by rw [he]; exact h1, by unfold ackT; rw [he, if_neg hc]; exact hL.below h2, FrL.of_below h2⟩
  have hop := open_any (E := E) (M := M) (N := N) (s := s) (E2 := E2) (M2 := M2) (N2 := N2) (s2 := s2) p hp
  by_cases h0 : openC s p = 0
  · rw [h0] at hop
    have hcm : (lk p.s s.cm).isSome = true := by
      by_cases h3 : (lk p.s s.cm).isSome = true
      · exact h3
      · exfalso
        revert h0
        simp only [Bool.not_eq_true] at h3
        unfold openC
        rw [h3]
        split
        · decide
        · split
          · decide
          · simp
    cases h1 : (lk p.s s2.ac).isSome
    · exact errk 18 (by decide) (by simp [ackC, h0, h1]) (ack_none p a hT hL hO hop h1)
    · by_cases h2 : sumOf p.s s2.ac = ackP a
      · cases h3 : s.o
        · have hz : ackC s s2 p a = 0 := by simp [ackC, h0, h1, h2, h3]
          refine (ack_un p a hT hL hO hop ha h1 h2 h3).mono fun e w' ⟨e1, e2, e3⟩ => ⟨?_, ?_, e3⟩
          · rw [hz]; exact e1
          · unfold ackT; rw [hz, if_pos rfl, h3]; exact e2
        · by_cases h4 : p.s = s.ak
          · have hz : ackC s s2 p a = 0 := by unfold ackC; rw [if_neg (by simp [h0]), if_neg (by simp [h1]), if_neg (by simp [h2]), if_neg (fun k => k.2 h4)]
            have h9 := hc hcm
            refine (ack_or p a hT hL hO hop ha h1 h2 h3 (by simp [h4]) hk (by omega)).mono fun e w' ⟨e1, e2, e3⟩ => ⟨?_, ?_, e3⟩
            · rw [hz]; exact e1
            · unfold ackT; rw [hz, if_pos rfl, h3]; exact e2
          · exact errk 19 (by decide) (by simp [ackC, h0, h1, h2, h3, h4]) (ack_order p a hT hL hO hop ha h1 h2 h3 (by simp [h4]))
      · exact errk 18 (by decide) (by simp [ackC, h0, h1, h2]) (ack_other p a hT hL hO hop ha h1 h2)
  · exact errk _ h0 (by simp [ackC, h0]) (ack_err p a hT hL hO _ (by simpa using h0) hop)
theorem tmo_any (p : P5) (h : Int) (hT : Sha.Tab w) (hL : LG w E M N s) (hO : LG w E2 M2 N2 s2) (hp : p.ok) :
    Calls Tryd.prog 12 #[.pointer (some ⟨E, 0, none⟩), pkv p, .int .u64 h, .pointer (some ⟨E2, 0, none⟩)] w fun e w' => e = .returned (.int .i64 (tmoC s s2 p h)) ∧ LG w' E M N (tmoS s s2 p h) ∧ FrL E M N w w' := by
  have errk : ∀ c, c ≠ 0 → tmoC s s2 p h = c → (Calls Tryd.prog 12 #[.pointer (some ⟨E, 0, none⟩), pkv p, .int .u64 h, .pointer (some ⟨E2, 0, none⟩)] w fun e w' => e = .returned (.int .i64 c) ∧ Below w.heap.size w w') → Calls Tryd.prog 12 #[.pointer (some ⟨E, 0, none⟩), pkv p, .int .u64 h, .pointer (some ⟨E2, 0, none⟩)] w fun e w' => e = .returned (.int .i64 (tmoC s s2 p h)) ∧ LG w' E M N (tmoS s s2 p h) ∧ FrL E M N w w' := fun c hc he H => H.mono fun e w' ⟨h1, h2⟩ =>
    ⟨by rw [he]; exact h1, by unfold tmoS; rw [he, if_neg hc]; exact hL.below h2, FrL.of_below h2⟩
  have hop := open_any (E := E) (M := M) (N := N) (s := s) (E2 := E2) (M2 := M2) (N2 := N2) (s2 := s2) p hp
  by_cases h0 : openC s p = 0
  · rw [h0] at hop
    cases h1 : lateB p h
    · exact errk 21 (by decide) (by simp [tmoC, h0, h1]) (tmo_early p h hT hL hO hop h1)
    · cases h2 : (lk p.s s2.ac).isSome
      · have hz : tmoC s s2 p h = 0 := by simp [tmoC, h0, h1, h2]
        refine (tmo_ok p h hT hL hO hop h1 h2).mono fun e w' ⟨e1, e2, e3⟩ => ⟨?_, ?_, e3⟩
        · rw [hz]; exact e1
        · unfold tmoS; rw [hz, if_pos rfl]; exact e2
      · exact errk 10 (by decide) (by simp [tmoC, h0, h1, h2]) (tmo_state p h hT hL hO hop h1 h2)
  · exact errk _ h0 (by simp [tmoC, h0]) (tmo_err p h hT hL hO _ (by simpa using h0) hop)
end
end Go.Proofs.YtdljphbfbiganaaDoor.Lg
/- LineOnce: what each operation does to two ends and to three rows of keys. -/
namespace Go.Proofs.YtdljphbfbiganaaDoor.Lo
open Go Go.RowKit Packet Mg Lg Ln
set_option linter.unusedVariables false

theorem tof {b : Bool} (h : ¬ b = false) : b = true := by cases b <;> simp_all
theorem fof {b : Bool} (h : ¬ b = true) : b = false := by cases b <;> simp_all
structure Bd (x : Int) (o : Bool) (s : St) : Prop where
  ch : s.ch = 1
  sd : s.sd = x
  o : s.o = o
  sn : 1 ≤ s.sn ∧ s.sn ≤ 18446744073709551615
  rc : 1 ≤ s.rc
  ak : 1 ≤ s.ak
/-- blocks of other types stand -/
structure FT (V w' : World) : Prop where
  size : V.heap.size ≤ w'.heap.size
  block : ∀ (k : Nat) cs t q, V.heap[k]? = some (Obj.cells cs t q) → t ≠ TLn → w'.heap[k]? = V.heap[k]?
theorem FT.of_frl {V w' : World} {E M N : Nat} {s : St} (h : FrL E M N V w') (l : LG V E M N s) : FT V w' := by
  refine ⟨h.size, fun k cs t q hk ht => h.block k (lt_of hk) (fun e => ?_) (mg_ne l.com hk) (mg_ne l.ack hk)⟩
  subst e
  rw [l.box] at hk
  injection hk with hk
  injection hk with _ hk
  exact ht hk.symm
/-- side x's end and the other one -/
structure Pr (W V : World) (x : Int) (E M N : Nat) (s : St) (E' M' N' : Nat) (s' : St) (o : Bool) (got gone ex : List (Int × Int)) : Prop where
  bel : Below W.heap.size W V
  tab : Sha.Tab V
  l : LG V E M N s
  l' : LG V E' M' N' s'
  ap : E ≠ E' ∧ M ≠ M' ∧ M ≠ N' ∧ N ≠ M' ∧ N ≠ N'
  lo : (W.heap.size ≤ E ∧ W.heap.size ≤ M ∧ W.heap.size ≤ N) ∧ W.heap.size ≤ E' ∧ W.heap.size ≤ M' ∧ W.heap.size ≤ N'
  bd : Bd x o s
  bd' : Bd (1 - x) o s'
  sx : Sd x s s' got gone ex o
  sy : Sd (1 - x) s' s got gone ex o
  x01 : x = 0 ∨ x = 1
section
variable {W V V' : World} {x : Int} {E M N E' M' N' : Nat} {s s' s1 : St} {o : Bool} {got gone ex got1 gone1 ex1 : List (Int × Int)}
theorem Pr.swap (h : Pr W V x E M N s E' M' N' s' o got gone ex) : Pr W V (1 - x) E' M' N' s' E M N s o got gone ex := by
  have e : 1 - (1 - x) = x := by omega
  exact ⟨h.bel, h.tab, h.l', h.l, ⟨h.ap.1.symm, h.ap.2.1.symm, h.ap.2.2.2.1.symm, h.ap.2.2.1.symm, h.ap.2.2.2.2.symm⟩, ⟨h.lo.2, h.lo.1⟩, h.bd', by rw [e]; exact h.bd, h.sy, by rw [e]; exact h.sx, by have := h.x01; omega⟩
theorem Pr.below (h : Pr W V x E M N s E' M' N' s' o got gone ex) (b : Below V.heap.size V V') : Pr W V' x E M N s E' M' N' s' o got gone ex :=
  ⟨h.bel.trans (b.mono h.bel.size), Sha.tab_below h.tab b, h.l.below b, h.l'.below b, h.ap, h.lo, h.bd, h.bd', h.sx, h.sy, h.x01⟩
/-- block of another type is written -/
theorem Pr.of_eq (h : Pr W V x E M N s E' M' N' s' o got gone ex) (hb : Below W.heap.size W V') (ht : Sha.Tab V') (hk : ∀ k, (k = E ∨ k = M ∨ k = N ∨ k = E' ∨ k = M' ∨ k = N') → V'.heap[k]? = V.heap[k]?) : Pr W V' x E M N s E' M' N' s' o got gone ex :=
  ⟨hb, ht, h.l.of_eq (hk _ (by simp)) (hk _ (by simp)) (hk _ (by simp)), h.l'.of_eq (hk _ (by simp)) (hk _ (by simp)) (hk _ (by simp)), h.ap, h.lo, h.bd, h.bd', h.sx, h.sy, h.x01⟩
/-- an end turns -/
theorem Pr.turn (h : Pr W V x E M N s E' M' N' s' o got gone ex) (f : FrL E M N V V') (l : LG V' E M N s1) (b : Bd x o s1) (sx : Sd x s1 s' got1 gone1 ex1 o) (sy : Sd (1 - x) s' s1 got1 gone1 ex1 o) : Pr W V' x E M N s1 E' M' N' s' o got1 gone1 ex1 := by
  obtain ⟨a1, a2, a3, a4, a5⟩ := h.ap
  refine ⟨f.below h.bel h.bel.size h.lo.1.1 h.lo.1.2.1 h.lo.1.2.2, f.tab h.tab h.l, l, h.l'.of_eq (f.block _ h.l'.lt.1 a1.symm (mg_ne h.l.com h.l'.box) (mg_ne h.l.ack h.l'.box)) (f.block _ h.l'.lt.2.1 (mg_ne h.l'.com h.l.box).symm a2.symm a4.symm) (f.block _ h.l'.lt.2.2 (mg_ne h.l'.ack h.l.box).symm a3.symm a5.symm), h.ap, h.lo, b, h.bd', sx, sy, h.x01⟩
theorem wrap1 (h : x = 0 ∨ x = 1) : IntKind.i64.wrap (1 - x) = 1 - x := by rcases h with rfl | rfl <;> decide
theorem Pr.send (h : Pr W V x E M N s E' M' N' s' o got gone ex) (p : P5) (hp : p.ok) (hh : Int) :
    Calls Tryd.prog 8 #[.pointer (some ⟨E, 0, none⟩), pkv p, .int .u64 hh] V fun e w' => ∃ q c, e = .returned (.tuple #[pval q, .int .i64 c]) ∧ (∃ s1, Pr W w' x E M N s1 E' M' N' s' o got gone ex) ∧ FT V w' := by
  refine (send_any p hh h.tab h.l hp ⟨by have := h.bd.sn; omega, h.bd.sn.2⟩).mono ?_
  rintro e w' ⟨rfl, l1, f1⟩
  refine ⟨_, _, rfl, ⟨sendS s p hh, ?_⟩, FT.of_frl f1 h.l⟩
  unfold sendS at l1 ⊢
  split at l1
  · rename_i hz
    rw [if_pos hz]
    have hsn : s.sn < 18446744073709551615 := by
      have h1 := h.bd.sn
      have h2 : s.sn ≠ 18446744073709551615 := fun e => by
        revert hz
        unfold sendC
        rw [if_pos e]
        repeat' split
        all_goals decide
      omega
    exact h.turn f1 l1 ⟨h.bd.ch, h.bd.sd, h.bd.o, ⟨by show 1 ≤ s.sn + 1; have := h.bd.sn; omega, by show s.sn + 1 ≤ _; omega⟩, h.bd.rc, h.bd.ak⟩ h.sx.sent h.sy.sent'
  · rename_i hz
    rw [if_neg hz]
    exact h.turn f1 l1 h.bd h.sx h.sy
theorem fit_of {p : P5} {y : Int} (hb : fitG s p y = true) : p.f = y := ((fitG_iff s p y).1 hb).2.2
theorem recv_z {p : P5} {y hh : Int} (hz : recvC s s' p y hh = 0) : fitG s p y = true ∧ (lk p.s s.ac).isSome = false ∧ (lk p.s s'.cm).isSome = true ∧ (s.o = true → p.s = s.rc) := by
  unfold recvC at hz
  split at hz
  · cases hz
  rename_i h1
  split at hz
  · cases hz
  split at hz
  · cases hz
  rename_i h3
  split at hz
  · cases hz
  split at hz
  · cases hz
  rename_i h5
  split at hz
  · cases hz
  split at hz
  · cases hz
  rename_i h7
  exact ⟨tof h1, fof h3, tof h5, fun ho => by
    rcases Decidable.em (p.s = s.rc) with e | e
    · exact e
    · exact absurd ⟨ho, e⟩ h7⟩
theorem Pr.recv (h : Pr W V x E M N s E' M' N' s' o got gone ex) (p : P5) (hp : p.ok) (hh : Int) :
    Calls Tryd.prog 9 #[.pointer (some ⟨E, 0, none⟩), pkv p, .int .u64 hh, .pointer (some ⟨E', 0, none⟩)] V fun e w' => ∃ a c, e = .returned (.tuple #[.string a, .int .i64 c]) ∧ (∃ s1 got1, Pr W w' x E M N s1 E' M' N' s' o got1 gone ex ∧ ((c = 0 ∧ got1 = got ++ [(p.f, p.s)] ∧ (p.f, p.s) ∉ got ∧ (p.f, p.s) ∉ ex ∧ (o = true → 1 < p.s → (p.f, p.s - 1) ∈ got)) ∨ (c ≠ 0 ∧ got1 = got))) ∧ FT V w' := by
  refine (recv_any p hh (1 - x) h.tab h.l h.l' hp (by rw [h.bd.sd]; exact wrap1 h.x01) (by have := h.bd.rc; omega) (fun hc => by have := (h.sy.cg _ hc).2; have := h.bd'.sn; omega)).mono ?_
  rintro e w' ⟨rfl, l1, f1⟩
  refine ⟨_, _, rfl, ?_, FT.of_frl f1 h.l⟩
  unfold recvS at l1
  by_cases hz : recvC s s' p (1 - x) hh = 0
  · rw [if_pos hz] at l1
    obtain ⟨z1, z2, z3, z4⟩ := recv_z hz
    have hf := fit_of z1
    rw [hz, hf]
    have hxy : x ≠ 1 - x := by have := h.x01; omega
    have ha := h.sy.asked z3 z2 (fun ho => z4 (h.bd.o.trans ho))
    cases ho : s.o
    · rw [ho, if_neg (by simp)] at l1
      obtain rfl : false = o := ho.symm.trans h.bd.o
      exact ⟨recU p s, _, h.turn f1 l1 ⟨h.bd.ch, h.bd.sd, h.bd.o, h.bd.sn, h.bd.rc, h.bd.ak⟩ (h.sx.rec' hxy (recU p s) rfl rfl p.s) h.sy.recU, .inl ⟨rfl, rfl, ha⟩⟩
    · rw [ho, if_pos rfl] at l1
      exact ⟨recO p s, _, h.turn f1 l1 ⟨h.bd.ch, h.bd.sd, h.bd.o, h.bd.sn, by show 1 ≤ s.rc + 1; have := h.bd.rc; omega, h.bd.ak⟩ (h.sx.rec' hxy (recO p s) rfl rfl p.s) (h.sy.recO (z4 ho)), .inl ⟨rfl, rfl, ha⟩⟩
  · rw [if_neg hz] at l1
    exact ⟨s, got, h.turn f1 l1 h.bd h.sx h.sy, .inr ⟨hz, rfl⟩⟩
theorem open_z {p : P5} (hz : openC s p = 0) : fitG s p s.sd = true ∧ (lk p.s s.cm).isSome = true := by
  unfold openC at hz
  split at hz
  · cases hz
  rename_i h1
  split at hz
  · cases hz
  split at hz
  · cases hz
  rename_i h3
  exact ⟨tof h1, tof h3⟩
theorem ack_z {p : P5} {a : ByteArray} (hz : ackC s s' p a = 0) : openC s p = 0 ∧ (lk p.s s'.ac).isSome = true := by
  unfold ackC at hz
  split at hz
  · rename_i h; exact absurd hz h
  rename_i h1
  split at hz
  · cases hz
  rename_i h2
  exact ⟨Decidable.of_not_not h1, tof h2⟩
theorem tmo_z {p : P5} {hh : Int} (hz : tmoC s s' p hh = 0) : openC s p = 0 ∧ (lk p.s s'.ac).isSome = false := by
  unfold tmoC at hz
  split at hz
  · rename_i h; exact absurd hz h
  rename_i h1
  split at hz
  · cases hz
  split at hz
  · cases hz
  rename_i h2
  exact ⟨Decidable.of_not_not h1, fof h2⟩
theorem Pr.ack (h : Pr W V x E M N s E' M' N' s' o got gone ex) (p : P5) (hp : p.ok) (a : ByteArray) (ha : a.size ≤ 1000000) :
    Calls Tryd.prog 11 #[.pointer (some ⟨E, 0, none⟩), pkv p, .string a, .pointer (some ⟨E', 0, none⟩)] V fun e w' => ∃ c, e = .returned (.int .i64 c) ∧ (∃ s1 gone1, Pr W w' x E M N s1 E' M' N' s' o got gone1 ex ∧ ((c = 0 ∧ gone1 = gone ++ [(p.f, p.s)] ∧ (p.f, p.s) ∉ gone ∧ (p.f, p.s) ∈ got) ∨ (c ≠ 0 ∧ gone1 = gone))) ∧ FT V w' := by
  refine (ack_any p a h.tab h.l h.l' hp ha (by have := h.bd.ak; omega) (fun hc => by have := (h.sx.cg _ hc).2; have := h.bd.sn; omega)).mono ?_
  rintro e w' ⟨rfl, l1, f1⟩
  refine ⟨_, rfl, ?_, FT.of_frl f1 h.l⟩
  unfold ackT at l1
  by_cases hz : ackC s s' p a = 0
  · rw [if_pos hz] at l1
    obtain ⟨z0, z2⟩ := ack_z hz
    obtain ⟨z1, z3⟩ := open_z z0
    have hf := fit_of z1
    rw [h.bd.sd] at hf
    rw [hz, hf]
    have hxy : 1 - x ≠ x := by have := h.x01; omega
    have hk := h.sx.askedGone z3
    cases ho : s.o
    · rw [ho, if_neg (by simp)] at l1
      exact ⟨goneS p s, _, h.turn f1 l1 ⟨h.bd.ch, h.bd.sd, h.bd.o, h.bd.sn, h.bd.rc, h.bd.ak⟩ (h.sx.goes z3 (goneS p s) rfl rfl) (h.sy.goes' hxy (goneS p s) rfl rfl p.s), .inl ⟨rfl, rfl, hk.1, hk.2.2 z2⟩⟩
    · rw [ho, if_pos rfl] at l1
      exact ⟨ackS p s, _, h.turn f1 l1 ⟨h.bd.ch, h.bd.sd, h.bd.o, h.bd.sn, h.bd.rc, by show 1 ≤ s.ak + 1; have := h.bd.ak; omega⟩ (h.sx.goes z3 (ackS p s) rfl rfl) (h.sy.goes' hxy (ackS p s) rfl rfl p.s), .inl ⟨rfl, rfl, hk.1, hk.2.2 z2⟩⟩
  · rw [if_neg hz] at l1
    exact ⟨s, gone, h.turn f1 l1 h.bd h.sx h.sy, .inr ⟨hz, rfl⟩⟩
theorem Pr.tmo (h : Pr W V x E M N s E' M' N' s' o got gone ex) (p : P5) (hp : p.ok) (hh : Int) :
    Calls Tryd.prog 12 #[.pointer (some ⟨E, 0, none⟩), pkv p, .int .u64 hh, .pointer (some ⟨E', 0, none⟩)] V fun e w' => ∃ c, e = .returned (.int .i64 c) ∧ (∃ s1 gone1 ex1, Pr W w' x E M N s1 E' M' N' s' o got gone1 ex1 ∧ ((c = 0 ∧ gone1 = gone ++ [(p.f, p.s)] ∧ ex1 = ex ++ [(p.f, p.s)] ∧ (p.f, p.s) ∉ gone ∧ (p.f, p.s) ∉ got) ∨ (c ≠ 0 ∧ gone1 = gone ∧ ex1 = ex))) ∧ FT V w' := by
  refine (tmo_any p hh h.tab h.l h.l' hp).mono ?_
  rintro e w' ⟨rfl, l1, f1⟩
  refine ⟨_, rfl, ?_, FT.of_frl f1 h.l⟩
  unfold tmoS at l1
  by_cases hz : tmoC s s' p hh = 0
  · rw [if_pos hz] at l1
    obtain ⟨z0, z2⟩ := tmo_z hz
    obtain ⟨z1, z3⟩ := open_z z0
    have hf := fit_of z1
    rw [h.bd.sd] at hf
    rw [hz, hf]
    have hxy : 1 - x ≠ x := by have := h.x01; omega
    have hk := h.sx.askedGone z3
    exact ⟨expS p s, _, _, h.turn f1 l1 ⟨h.bd.ch, h.bd.sd, h.bd.o, h.bd.sn, h.bd.rc, h.bd.ak⟩ (h.sx.goes z3 (expS p s) rfl rfl).expire (h.sy.goes' hxy (expS p s) rfl rfl p.s).expire, .inl ⟨rfl, rfl, rfl, hk.1, fun hg => by have := hk.2.1 hg; rw [z2] at this; cases this⟩⟩
  · rw [if_neg hz] at l1
    exact ⟨s, gone, ex, h.turn f1 l1 h.bd h.sx h.sy, .inr ⟨hz, rfl, rfl⟩⟩
end
end Go.Proofs.YtdljphbfbiganaaDoor.Lo
/- LineOnce: whether a key is one of a row's. -/
namespace Go.Proofs.YtdljphbfbiganaaDoor.Lo
open Go Go.RowKit
set_option linter.unusedVariables false

abbrev TKy : Nat := 37
theorem eq_ky (f s f' s' : Int) (W : World) : (binOp .eql TKy (.agg #[.int .i64 1, .int .i64 f, .int .u64 s]) (.agg #[.int .i64 1, .int .i64 f', .int .u64 s'])).run Tryd.prog W = .ok (.bool (decide ((f, s) = (f', s')))) W := by
  have h : (Op.equal TKy (.agg #[.int .i64 1, .int .i64 f, .int .u64 s]) (.agg #[.int .i64 1, .int .i64 f', .int .u64 s'])).run Tryd.prog W = .ok (decide ((f, s) = (f', s'))) W := by
    unfold Op.equal Op.maxDepth
    have e : decide ((f, s) = (f', s')) = (f == f' && s == s') := by
      by_cases h1 : f = f' <;> by_cases h2 : s = s' <;> simp [h1, h2]
    rw [e]
    go_simp
    repeat' split
    all_goals simp_all
  simp only [binOp, Sem.run_bind, h, Result.andThen_ok]
  rfl
/-- keys of the channel 1 that are read: (side, number) -/
structure RdY (V : World) (A : Option Addr) (len : Nat) (ks : List (Int × Int)) : Prop where
  many : ks.length = len
  cells : 0 < len → ∃ b off, A = some ⟨b, off, none⟩ ∧ b < V.heap.size ∧ ∀ i (h : i < ks.length), V.cell? ⟨b, off + i * 3, none⟩ = some (.int .i64 1) ∧ V.cell? ⟨b, off + i * 3 + 1, none⟩ = some (.int .i64 ks[i].1) ∧ V.cell? ⟨b, off + i * 3 + 2, none⟩ = some (.int .u64 ks[i].2)
theorem RdY.below {V V' : World} {A : Option Addr} {len : Nat} {ks : List (Int × Int)} (h : RdY V A len ks) (hb : Below V.heap.size V V') : RdY V' A len ks :=
  ⟨h.many, fun hl => by
    obtain ⟨b, off, e1, e2, e3⟩ := h.cells hl
    have hk := hb.block b e2
    exact ⟨b, off, e1, Nat.lt_of_lt_of_le e2 hb.size, fun i hi => ⟨(World.cell?_of_block hk).trans (e3 i hi).1, (World.cell?_of_block hk).trans (e3 i hi).2.1, (World.cell?_of_block hk).trans (e3 i hi).2.2⟩⟩⟩
theorem below_drewN {B : Nat} {a b : World} (h : Below B a b) (n : Nat) : Below B a (b.drewN n) := ⟨h.os, h.tape, h.output, h.size, h.block⟩
set_option maxRecDepth 20000 in
set_option maxHeartbeats 2000000 in
theorem in_any (A : Option Addr) (len cap : Nat) (L : List (Int × Int)) (f s : Int) (W : World) (hq : RdY W A len L) (hl9 : len ≤ 1000000) :
    Calls Tryd.prog 10 #[.slice A len cap, .agg #[.int .i64 1, .int .i64 f, .int .u64 s]] W fun e w' => e = .returned (.bool (decide ((f, s) ∈ L))) ∧ Below W.heap.size W w' := by
  have hx0 := heap_alloc_new W (.cells #[.int .i64 1, .int .i64 f, .int .u64 s] TKy)
  have b0 : Below W.heap.size W (W.alloc (.cells #[.int .i64 1, .int .i64 f, .int .u64 s] TKy)) := (Below.refl _ _).alloc (Nat.le_refl _) _
  obtain ⟨w0, hw0⟩ : ∃ X, X = W.alloc (.cells #[.int .i64 1, .int .i64 f, .int .u64 s] TKy) := ⟨_, rfl⟩
  obtain ⟨P, hP⟩ : ∃ P, P = W.heap.size := ⟨_, rfl⟩
  rw [← hw0, ← hP] at hx0
  rw [← hw0] at b0
  have hQ := hq.below b0
  have H0 : Hid (w0.heap[P]? = some (.cells #[.int .i64 1, .int .i64 f, .int .u64 s] TKy (0, 0)) ∧ Below W.heap.size W w0 ∧ RdY w0 A len L ∧ (f, s) ∉ L.take 0) := Lib.hid ⟨hx0, b0, hQ, by simp⟩
  clear hx0 b0 hQ hq
  go_enter Tryd.func10, Tryd.ntmps10
  go_upto_region 1 with fail
  rw [← hw0, ← hP]
  clear hw0 hP
  go_wp2
  go_loopw [5] (fun vi wr => ∃ (i : Nat), vi = .int .i64 (i : Int) ∧ i ≤ len ∧ Hid (wr.heap[P]? = some (.cells #[.int .i64 1, .int .i64 f, .int .u64 s] TKy (0, 0)) ∧ Below W.heap.size W wr ∧ RdY wr A len L ∧ (f, s) ∉ L.take i)) (fun vi _ => len - (intOf vi).toNat)
  case atStart => exact ⟨0, rfl, Nat.zero_le _, H0⟩
  case round =>
    clear H0
    obtain ⟨i, rfl, hi, HB⟩ := hrel
    by_cases hlt : i < len
    · have hi0 : (0 : Int) ≤ (i : Int) := by omega
      have hi1 : (i : Int) < (len : Int) := by omega
      obtain ⟨b9, off, rfl, hbl, hcs⟩ := HB.out.2.2.1.cells (by omega)
      have hlL : i < L.length := by have := HB.out.2.2.1.many; omega
      obtain ⟨q0, q1, q2⟩ := hcs i hlL
      have htk : L.take (i + 1) = L.take i ++ [L[i]] := by rw [List.take_succ_eq_append_getElem hlL]
      have hmm : L[i] ∈ L := List.getElem_mem hlL
      obtain ⟨⟨f', s'⟩, hz⟩ : ∃ z, z = L[i] := ⟨_, rfl⟩
      rw [← hz] at q1 q2 htk hmm
      dsimp only at q1 q2
      have p0 := cell_of_row wr P 0 _ _ (0, 0) HB.out.1
      have p1 := cell_of_row wr P 1 _ _ (0, 0) HB.out.1
      have p2 := cell_of_row wr P 2 _ _ (0, 0) HB.out.1
      have HT := Lib.hid htk
      by_cases he : (f', s') = (f, s)
      · have heq := fun W => eq_ky f' s' f s W
        have hM : decide ((f, s) ∈ L) = true := by rw [← he]; exact decide_eq_true hmm
        rw [decide_eq_true he] at heq
        have HM := Lib.hid hM
        clear hcs htk hmm hz he hM hbl
        go_wp2
        go_quiet (fail)
        go_wp2
        go_ret
        exact ⟨by rw [HM.out] <;> rfl, below_drewN HB.out.2.1 _⟩
      · have heq := fun W => eq_ky f' s' f s W
        rw [decide_eq_false he] at heq
        have HE := Lib.hid he
        clear hcs htk hmm hz he hbl
        go_wp2
        go_quiet (fail)
        go_wp2
        go_roundw
        case rel => exact ⟨i + 1, by go_num, by omega, Lib.hid ⟨HB.out.1, below_drewN HB.out.2.1 _, HB.out.2.2.1.below (below_drewN (Below.refl _ _) _), by rw [HT.out, List.mem_append, List.mem_singleton]; exact fun k => k.elim HB.out.2.2.2 (fun e => HE.out e.symm)⟩⟩
        case measure => simp [intOf]; omega
    · obtain rfl : i = len := by omega
      have hN : decide ((f, s) ∈ L) = false := by
        have := HB.out.2.2.2
        rw [List.take_of_length_le (by have := HB.out.2.2.1.many; omega)] at this
        exact decide_eq_false this
      have HN := Lib.hid hN
      clear hN
      go_wp2
      go_ret
      exact ⟨by rw [HN.out] <;> rfl, HB.out.2.1⟩
end Go.Proofs.YtdljphbfbiganaaDoor.Lo
/- LineOnce: the law's world: three rows of keys, the heights' box, beside two ends. -/
namespace Go.Proofs.YtdljphbfbiganaaDoor.Lo
open Go Go.RowKit Packet Mg Lg Ln
set_option linter.unusedVariables false

abbrev TH : Nat := 30
def kcells (L : List (Int × Int)) : List Value := L.flatMap fun q => [.int .i64 1, .int .i64 q.1, .int .u64 q.2]
theorem kcells_snoc (L : List (Int × Int)) (f s : Int) : kcells (L ++ [(f, s)]) = kcells L ++ (#[.int .i64 1, .int .i64 f, .int .u64 s] : Array Value).toList := by simp [kcells]
theorem kcells_at : ∀ (K : List (Int × Int)) (i : Nat) (h : i < K.length) (j : Nat), j < 3 → (kcells K)[i * 3 + j]? = (#[.int .i64 1, .int .i64 K[i].1, .int .u64 K[i].2] : Array Value)[j]?
  | q :: K, 0, _, j, hj => by
    show ([Value.int .i64 1, .int .i64 q.1, .int .u64 q.2] ++ kcells K)[0 * 3 + j]? = _
    rw [List.getElem?_append_left (by simp; omega)]
    simp
  | q :: K, i + 1, h, j, hj => by
    show ([Value.int .i64 1, .int .i64 q.1, .int .u64 q.2] ++ kcells K)[(i + 1) * 3 + j]? = _
    rw [List.getElem?_append_right (by simp; omega)]
    have := kcells_at K i (by simpa using h) j hj
    rw [show (i + 1) * 3 + j - [Value.int .i64 1, .int .i64 q.1, .int .u64 q.2].length = i * 3 + j by simp; omega, this]
    rfl
abbrev Own (W V : World) (A : Option Addr) (m c : Nat) (L : List (Int × Int)) : Prop := V.ownsRow W.heap.size TKy 3 (.slice A m c) L.length (kcells L) ∧ m = L.length
theorem own_cell {W V : World} {A : Option Addr} {m c : Nat} {L : List (Int × Int)} (h : Own W V A m c L) : ∀ k, (Value.slice A m c).ownBlock = some k → ∃ cur, V.heap[k]? = some (.cells cur TKy (0, 0)) := by
  intro k hk
  rcases h.1.2 with ⟨h2, _⟩ | ⟨g, cap, cur, hv, hg, hh, _⟩
  · rw [h2] at hk; cases hk
  · rw [hv] at hk
    injection hk with hk
    subst hk
    exact ⟨cur, hh⟩
theorem own_eq {W V V' : World} {A : Option Addr} {m c : Nat} {L : List (Int × Int)} (h : Own W V A m c L) (hb : ∀ k, (Value.slice A m c).ownBlock = some k → V'.heap[k]? = V.heap[k]?) : Own W V' A m c L := by
  refine ⟨⟨h.1.1, ?_⟩, h.2⟩
  rcases h.1.2 with h2 | ⟨g, cap, cur, hv, hg, hh, r⟩
  · exact .inl h2
  · exact .inr ⟨g, cap, cur, hv, hg, (hb g (by rw [hv]; rfl)).trans hh, r⟩
theorem own_rd {W V : World} {A : Option Addr} {m c : Nat} {L : List (Int × Int)} (h : Own W V A m c L) : RdY V A m L := by
  obtain ⟨h, hm⟩ := h
  refine ⟨hm.symm, fun hn => ?_⟩
  rcases h.2 with ⟨_, h0⟩ | ⟨g, cap, cur, hv, hg, hh, hnc, hcm, hcs, ht⟩
  · omega
  · injection hv with hv1 hv2 hv3
    subst hv1
    refine ⟨g, 0, rfl, lt_of hh, fun i hi => ?_⟩
    have key : ∀ j, j < 3 → V.cell? ⟨g, 0 + i * 3 + j, none⟩ = (#[.int .i64 1, .int .i64 L[i].1, .int .u64 L[i].2] : Array Value)[j]? := fun j hj => by
      rw [Nat.zero_add, cell_of_row V g (i * 3 + j) cur _ (0, 0) hh]
      have := congrArg (fun z : List Value => z[i * 3 + j]?) ht
      simp only [kcells_at L i hi j hj] at this
      rw [List.getElem?_take, if_pos (by omega), Array.getElem?_toList] at this
      exact this
    exact ⟨key 0 (by decide), key 1 (by decide), key 2 (by decide)⟩
/-- the heights' box -/
def HB (V : World) (Q : Nat) : Prop := ∃ a b, V.heap[Q]? = some (.cells #[.int .u64 a, .int .u64 b] TH (0, 0))
theorem HB.at {V : World} {Q : Nat} (h : HB V Q) (j : Nat) (hj : j < 2) : ∃ x, V.cell? ⟨Q, j, none⟩ = some (.int .u64 x) := by
  obtain ⟨a, b, h⟩ := h
  have := cell_of_row V Q j _ _ (0, 0) h
  match j, hj with
  | 0, _ => exact ⟨a, this⟩
  | 1, _ => exact ⟨b, this⟩
theorem HB.set {V : World} {Q : Nat} (h : HB V Q) (j : Nat) (hj : j < 2) (x : Int) : HB (V.setCell ⟨Q, j, none⟩ (.int .u64 x)) Q := by
  obtain ⟨a, b, h⟩ := h
  have := set_at (i := j) (.int .u64 x) h
  match j, hj with
  | 0, _ => exact ⟨x, b, this⟩
  | 1, _ => exact ⟨a, x, this⟩
theorem HB.fz {V : World} {Q : Nat} (h : HB V Q) (i : Nat) : V.frozen? ⟨Q, i, none⟩ = false := by
  obtain ⟨a, b, h⟩ := h
  simp [World.frozen?, h]
/-- three rows, and the heights -/
structure Rs (W V : World) (A1 : Option Addr) (m1 c1 : Nat) (L1 : List (Int × Int)) (A2 : Option Addr) (m2 c2 : Nat) (L2 : List (Int × Int)) (A3 : Option Addr) (m3 c3 : Nat) (L3 : List (Int × Int)) (Q : Nat) : Prop where
  r1 : Own W V A1 m1 c1 L1
  r2 : Own W V A2 m2 c2 L2
  r3 : Own W V A3 m3 c3 L3
  d12 : ∀ k, (Value.slice A1 m1 c1).ownBlock = some k → (Value.slice A2 m2 c2).ownBlock ≠ some k
  d13 : ∀ k, (Value.slice A1 m1 c1).ownBlock = some k → (Value.slice A3 m3 c3).ownBlock ≠ some k
  d23 : ∀ k, (Value.slice A2 m2 c2).ownBlock = some k → (Value.slice A3 m3 c3).ownBlock ≠ some k
  hq : HB V Q
  lo : W.heap.size ≤ Q
/-- a packet's box, a key's box -/
def KB (V : World) (K : Nat) (f s : Int) (A1 : Option Addr) (m1 c1 : Nat) (A2 : Option Addr) (m2 c2 : Nat) (A3 : Option Addr) (m3 c3 : Nat) : Prop :=
  V.heap[K]? = some (.cells #[.int .i64 1, .int .i64 f, .int .u64 s] TKy (0, 0)) ∧ (Value.slice A1 m1 c1).ownBlock ≠ some K ∧ (Value.slice A2 m2 c2).ownBlock ≠ some K ∧ (Value.slice A3 m3 c3).ownBlock ≠ some K
section
variable {W V V' X : World} {A1 A2 A3 : Option Addr} {m1 c1 m2 c2 m3 c3 Q K P : Nat} {L1 L2 L3 : List (Int × Int)} {f s : Int} {p : P5}
theorem Rs.rot (h : Rs W V A1 m1 c1 L1 A2 m2 c2 L2 A3 m3 c3 L3 Q) : Rs W V A2 m2 c2 L2 A3 m3 c3 L3 A1 m1 c1 L1 Q :=
  ⟨h.r2, h.r3, h.r1, h.d23, fun k h2 h1 => h.d12 k h1 h2, fun k h3 h1 => h.d13 k h1 h3, h.hq, h.lo⟩
theorem KB.rot (h : KB V K f s A1 m1 c1 A2 m2 c2 A3 m3 c3) : KB V K f s A2 m2 c2 A3 m3 c3 A1 m1 c1 := ⟨h.1, h.2.2.1, h.2.2.2, h.2.1⟩
theorem FT.cellQ (f : FT V V') (h : HB V Q) (i : Nat) : V'.cell? ⟨Q, i, none⟩ = V.cell? ⟨Q, i, none⟩ := by
  obtain ⟨a, b, hq⟩ := h
  exact World.cell?_of_block (f.block Q _ _ _ hq (by decide))
theorem ft_below (b : Below V.heap.size V V') : FT V V' := ⟨b.size, fun k cs t q h _ => b.block k (lt_of h)⟩
theorem Rs.ft (h : Rs W V A1 m1 c1 L1 A2 m2 c2 L2 A3 m3 c3 L3 Q) (f : FT V V') : Rs W V' A1 m1 c1 L1 A2 m2 c2 L2 A3 m3 c3 L3 Q := by
  have g : ∀ {A m c L}, Own W V A m c L → Own W V' A m c L := fun ho => own_eq ho fun k hk => by
    obtain ⟨cur, hc⟩ := own_cell ho k hk
    exact f.block k _ _ _ hc (by decide)
  refine ⟨g h.r1, g h.r2, g h.r3, h.d12, h.d13, h.d23, ?_, h.lo⟩
  obtain ⟨a, b, hq⟩ := h.hq
  exact ⟨a, b, (f.block Q _ _ _ hq (by decide)).trans hq⟩
theorem KB.ft (h : KB V K f s A1 m1 c1 A2 m2 c2 A3 m3 c3) (g : FT V V') : KB V' K f s A1 m1 c1 A2 m2 c2 A3 m3 c3 := ⟨(g.block K _ _ _ h.1 (by decide)).trans h.1, h.2⟩
theorem PkB.ft (h : PkB V P p) (g : FT V V') : PkB V' P p := (g.block P _ _ _ h (by decide)).trans h
theorem Rs.lt (h : Rs W V A1 m1 c1 L1 A2 m2 c2 L2 A3 m3 c3 L3 Q) : ∀ k, (Value.slice A1 m1 c1).ownBlock = some k → k < V.heap.size := fun k hk => by
  obtain ⟨cur, hc⟩ := own_cell h.r1 k hk
  exact lt_of hc
/-- a height is set -/
theorem Rs.setQ (h : Rs W V A1 m1 c1 L1 A2 m2 c2 L2 A3 m3 c3 L3 Q) (j : Nat) (hj : j < 2) (x : Int) : Rs W (V.setCell ⟨Q, j, none⟩ (.int .u64 x)) A1 m1 c1 L1 A2 m2 c2 L2 A3 m3 c3 L3 Q := by
  have ho := onB_setCell V Q j (.int .u64 x)
  obtain ⟨a, b, hq⟩ := h.hq
  have g : ∀ {A m c L}, Own W V A m c L → Own W (V.setCell ⟨Q, j, none⟩ (.int .u64 x)) A m c L := fun hw => own_eq hw fun k hk => by
    obtain ⟨cur, hc⟩ := own_cell hw k hk
    exact ho.block k fun e => by rw [e, hq] at hc; injection hc with hc; injection hc with _ hc; exact absurd hc (by decide)
  exact ⟨g h.r1, g h.r2, g h.r3, h.d12, h.d13, h.d23, h.hq.set j hj x, h.lo⟩
theorem KB.setQ (h : KB V K f s A1 m1 c1 A2 m2 c2 A3 m3 c3) (hq : HB V Q) (j : Nat) (x : Int) : KB (V.setCell ⟨Q, j, none⟩ (.int .u64 x)) K f s A1 m1 c1 A2 m2 c2 A3 m3 c3 := by
  obtain ⟨a, b, hq⟩ := hq
  refine ⟨((onB_setCell V Q j (.int .u64 x)).block K fun e => ?_).trans h.1, h.2⟩
  have hc := h.1
  rw [e, hq] at hc; injection hc with hc; injection hc with _ hc; exact absurd hc (by decide)
/-- a key's box is made -/
theorem KB.new (h : Rs W V A1 m1 c1 L1 A2 m2 c2 L2 A3 m3 c3 L3 Q) (f s : Int) : KB (V.alloc (.cells #[.int .i64 1, .int .i64 f, .int .u64 s] TKy)) V.heap.size f s A1 m1 c1 A2 m2 c2 A3 m3 c3 :=
  ⟨heap_alloc_new _ _, fun e => Nat.lt_irrefl _ (h.lt _ e), fun e => Nat.lt_irrefl _ (h.rot.lt _ e), fun e => Nat.lt_irrefl _ (h.rot.rot.lt _ e)⟩
/-- the first row has one more -/
theorem Rs.push (h : Rs W V A1 m1 c1 L1 A2 m2 c2 L2 A3 m3 c3 L3 Q) {f s : Int} {g cap : Nat} (ho : X.ownsRow W.heap.size TKy 3 (.slice (some ⟨g, 0, none⟩) (m1 + 1) cap) (m1 + 1) (kcells L1 ++ (#[.int .i64 1, .int .i64 f, .int .u64 s] : Array Value).toList)) (hg : V.grownBy X (Value.slice A1 m1 c1).ownBlock) (ha : (Value.slice A1 m1 c1).ownBlock = some g ∨ g = V.heap.size) :
    Rs W X (some ⟨g, 0, none⟩) (m1 + 1) cap (L1 ++ [(f, s)]) A2 m2 c2 L2 A3 m3 c3 L3 Q := by
  obtain rfl := h.r1.2
  have e2 : ∀ k, (Value.slice A2 m2 c2).ownBlock = some k → X.heap[k]? = V.heap[k]? := fun k hk => hg.block k (h.rot.lt k hk) fun e => h.d12 k e.symm hk
  have e3 : ∀ k, (Value.slice A3 m3 c3).ownBlock = some k → X.heap[k]? = V.heap[k]? := fun k hk => hg.block k (h.rot.rot.lt k hk) fun e => h.d13 k e.symm hk
  refine ⟨⟨?_, by simp⟩, own_eq h.r2 e2, own_eq h.r3 e3, fun k hk hk2 => ?_, fun k hk hk2 => ?_, h.d23, ?_, h.lo⟩
  · rw [kcells_snoc, List.length_append, List.length_singleton]; exact ho
  · have hk : some g = some k := hk
    injection hk with hk
    subst hk
    rcases ha with ha | ha
    · exact h.d12 g ha hk2
    · have := h.rot.lt g hk2; omega
  · have hk : some g = some k := hk
    injection hk with hk
    subst hk
    rcases ha with ha | ha
    · exact h.d13 g ha hk2
    · have := h.rot.rot.lt g hk2; omega
  · obtain ⟨a, b, hq⟩ := h.hq
    refine ⟨a, b, (hg.block Q (lt_of hq) fun e => ?_).trans hq⟩
    obtain ⟨cur, hc⟩ := own_cell h.r1 Q e.symm
    rw [hq] at hc; injection hc with hc; injection hc with _ hc; exact absurd hc (by decide)
theorem KB.push (h : KB V K f s A1 m1 c1 A2 m2 c2 A3 m3 c3) {g n cap : Nat} (hg : V.grownBy X (Value.slice A1 m1 c1).ownBlock) (ha : (Value.slice A1 m1 c1).ownBlock = some g ∨ g = V.heap.size) : KB X K f s (some ⟨g, 0, none⟩) n cap A2 m2 c2 A3 m3 c3 := by
  refine ⟨(hg.block K (lt_of h.1) fun e => h.2.1 e.symm).trans h.1, fun e => ?_, h.2.2⟩
  have e : some g = some K := e
  injection e with e
  subst e
  rcases ha with ha | ha
  · exact h.2.1 ha
  · have := lt_of h.1; omega
/-- two ends stand while a row has one more -/
theorem Pr.grow {x : Int} {E M N E' M' N' : Nat} {s s' : St} {o : Bool} {got gone ex : List (Int × Int)} (h : Pr W V x E M N s E' M' N' s' o got gone ex) (r : Own W V A1 m1 c1 L1) (hg : V.grownBy X (Value.slice A1 m1 c1).ownBlock) (hT : Sha.Tab W) : Pr W X x E M N s E' M' N' s' o got gone ex := by
  have hb := h.bel.grown hg h.bel.size fun k hk => own_ge r.1 k hk
  have ne : ∀ k, k < V.heap.size → (∀ cur, V.heap[k]? ≠ some (.cells cur TKy (0, 0))) → X.heap[k]? = V.heap[k]? := fun k hk hn => hg.block k hk fun e => by
    obtain ⟨cur, hc⟩ := own_cell r k e.symm
    exact hn cur hc
  have bx : ∀ {E M N s}, LG V E M N s → ∀ cur, V.heap[E]? ≠ some (.cells cur TKy (0, 0)) := fun l cur hc => by
    rw [l.box] at hc; injection hc with hc; injection hc with _ hc; exact absurd hc (by decide)
  have cm : ∀ {E M N s}, LG V E M N s → ∀ cur, V.heap[M]? ≠ some (.cells cur TKy (0, 0)) := fun l cur hc => mg_ne l.com hc rfl
  have ak : ∀ {E M N s}, LG V E M N s → ∀ cur, V.heap[N]? ≠ some (.cells cur TKy (0, 0)) := fun l cur hc => mg_ne l.ack hc rfl
  refine h.of_eq hb (Sha.tab_below hT hb) ?_
  rintro k (rfl | rfl | rfl | rfl | rfl | rfl)
  · exact ne _ h.l.lt.1 (bx h.l)
  · exact ne _ h.l.lt.2.1 (cm h.l)
  · exact ne _ h.l.lt.2.2 (ak h.l)
  · exact ne _ h.l'.lt.1 (bx h.l')
  · exact ne _ h.l'.lt.2.1 (cm h.l')
  · exact ne _ h.l'.lt.2.2 (ak h.l')
/-- .. and while a height is set -/
theorem Pr.setQ {x : Int} {E M N E' M' N' : Nat} {s s' : St} {o : Bool} {got gone ex : List (Int × Int)} (h : Pr W V x E M N s E' M' N' s' o got gone ex) (hq : HB V Q) (hlo : W.heap.size ≤ Q) (hT : Sha.Tab W) (j : Nat) (y : Int) : Pr W (V.setCell ⟨Q, j, none⟩ (.int .u64 y)) x E M N s E' M' N' s' o got gone ex := by
  have ho := onB_setCell V Q j (.int .u64 y)
  have hb : Below W.heap.size W (V.setCell ⟨Q, j, none⟩ (.int .u64 y)) := ho.below h.bel hlo
  obtain ⟨a, b, hq⟩ := hq
  have bx : ∀ {E M N s}, LG V E M N s → E ≠ Q ∧ M ≠ Q ∧ N ≠ Q := fun l => ⟨fun e => by
    have hc := l.box
    rw [e, hq] at hc; injection hc with hc; injection hc with _ hc; exact absurd hc (by decide), (mg_ne l.com hq).symm, (mg_ne l.ack hq).symm⟩
  refine h.of_eq hb (Sha.tab_below hT hb) ?_
  rintro k (rfl | rfl | rfl | rfl | rfl | rfl)
  · exact ho.block _ (bx h.l).1
  · exact ho.block _ (bx h.l).2.1
  · exact ho.block _ (bx h.l).2.2
  · exact ho.block _ (bx h.l').1
  · exact ho.block _ (bx h.l').2.1
  · exact ho.block _ (bx h.l').2.2
end
section
variable {W V V' : World} {A1 A2 A3 : Option Addr} {m1 c1 m2 c2 m3 c3 Q K P : Nat} {L1 L2 L3 : List (Int × Int)} {f s : Int} {p : P5} {x : Int} {E M N E' M' N' : Nat} {sa sb : St} {o : Bool} {got gone ex : List (Int × Int)}
theorem b4_below (h : Pr W V x E M N sa E' M' N' sb o got gone ex ∧ Rs W V A1 m1 c1 L1 A2 m2 c2 L2 A3 m3 c3 L3 Q ∧ KB V K f s A1 m1 c1 A2 m2 c2 A3 m3 c3 ∧ PkB V P p) (b : Below V.heap.size V V') :
    Pr W V' x E M N sa E' M' N' sb o got gone ex ∧ Rs W V' A1 m1 c1 L1 A2 m2 c2 L2 A3 m3 c3 L3 Q ∧ KB V' K f s A1 m1 c1 A2 m2 c2 A3 m3 c3 ∧ PkB V' P p :=
  ⟨h.1.below b, h.2.1.ft (ft_below b), h.2.2.1.ft (ft_below b), PkB.ft h.2.2.2 (ft_below b)⟩
theorem kb_cells (h : KB V K f s A1 m1 c1 A2 m2 c2 A3 m3 c3) : V.cell? ⟨K, 0, none⟩ = some (.int .i64 1) ∧ V.cell? ⟨K, 1, none⟩ = some (.int .i64 f) ∧ V.cell? ⟨K, 2, none⟩ = some (.int .u64 s) :=
  ⟨cell_of_row V K 0 _ _ (0, 0) h.1, cell_of_row V K 1 _ _ (0, 0) h.1, cell_of_row V K 2 _ _ (0, 0) h.1⟩
end
theorem infoKy : (Tryd.prog.info? TKy).map (fun i => (i.zero, i.size, i.bytes)) = some (some (.agg #[.int .i64 0, .int .i64 0, .int .u64 0]), 3, 24) := by kernel_rfl
theorem add_addrK (b o i : Nat) : (⟨b, o, none⟩ : Addr).add i = ⟨b, o + i, none⟩ := by simp [Addr.add]
theorem news_ky (V : World) (f s : Int) : ∀ j u, (#[.int .i64 1, .int .i64 f, .int .u64 s] : Array Value).toList[j]? = some u → (V.alloc (.cells #[.int .i64 1, .int .i64 f, .int .u64 s] TKy)).cell? ((⟨V.heap.size, 0, none⟩ : Addr).add j) = some u := by
  intro j u h
  have := cell_of_row (V.alloc (.cells #[.int .i64 1, .int .i64 f, .int .u64 s] TKy)) V.heap.size j #[.int .i64 1, .int .i64 f, .int .u64 s] TKy (0, 0) (heap_alloc_new V _)
  rw [add_addrK, Nat.zero_add]
  rw [Array.getElem?_toList] at h
  exact this.trans h
theorem ones_ky (f s : Int) : ∀ u ∈ (#[.int .i64 1, .int .i64 f, .int .u64 s] : Array Value).toList, u.oneCell' = true := by simp [Value.oneCell']
end Go.Proofs.YtdljphbfbiganaaDoor.Lo
