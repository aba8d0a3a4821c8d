import Derived.Test.YtdljphbfbiganaaGreatDoorPlSame
import Derived.Test.YtdljphbfbiganaaGreatDoorGPacketOpen0
import Derived.Test.YtdljphbfbiganaaGreatDoorGLnSort
/- LinePlays: the law's world: two ends of the program, two of the document. -/
namespace Go.Proofs.YtdljphbfbiganaaGreatDoor.Pl
open Go Go.RowKit Packet Mg Lg Ln
set_option linter.unusedVariables false

/-- an end's numbers, and at most n of each -/
structure Gd (s : St) (n : Nat) : Prop where
  sn : 1 ≤ s.sn ∧ s.sn ≤ 18446744073709551615
  rc : 1 ≤ s.rc
  ak : 1 ≤ s.ak
  kl : ∀ k, (Mg.lk k s.cm).isSome = true → k < s.sn
  nd : (s.cm.map (·.1)).Nodup
  na : (s.ac.map (·.1)).Nodup
  lc : s.cm.length ≤ n
  la : s.ac.length ≤ n
theorem Gd.more {s : St} {n m : Nat} (h : Gd s n) (hm : n ≤ m) : Gd s m := ⟨h.sn, h.rc, h.ak, h.kl, h.nd, h.na, Nat.le_trans h.lc hm, Nat.le_trans h.la hm⟩
theorem Gd.new (ch sd : Int) (o : Bool) (n : Nat) : Gd ⟨ch, sd, o, false, 1, 1, 1, [], []⟩ n :=
  ⟨⟨by simp, by simp⟩, by simp, by simp, fun k h => by simp [Mg.lk] at h, by simp, by simp, by simp, by simp⟩
theorem len_ins (k : Int) (v : Array Value) : ∀ L : List (Int × Array Value), (ins k v L).length ≤ L.length + 1
  | [] => by simp [ins]
  | x :: L => by
    unfold ins
    split
    · simp
    · have := len_ins k v L; simp; omega
theorem len_del (k : Int) : ∀ L : List (Int × Array Value), (del k L).length ≤ L.length
  | [] => by simp [del]
  | x :: L => by
    unfold del
    split
    · simp
    · have := len_del k L; simp; omega
theorem Gd.send {s : St} {n : Nat} (h : Gd s n) (p : P5) (hh : Int) : Gd (sendS s p hh) (n + 1) := by
  unfold sendS
  split
  · rename_i hz
    have hsn : s.sn < 18446744073709551615 := by
      have h1 := h.sn
      have h2 : s.sn ≠ 18446744073709551615 := fun e => by
        revert hz
        unfold sendC
        rw [if_pos e]
        repeat' split
        all_goals decide
      omega
    refine ⟨⟨by show 1 ≤ s.sn + 1; have := h.sn; omega, by show s.sn + 1 ≤ _; omega⟩, h.rc, h.ak, fun k hk => ?_, nodup_ins h.nd, h.na, ?_, Nat.le_succ_of_le h.la⟩
    · show k < s.sn + 1
      have hk : (Mg.lk k (ins s.sn (sumP (pN p s)) s.cm)).isSome = true := hk
      rw [lk_ins] at hk
      by_cases e : k = s.sn
      · omega
      · rw [if_neg e] at hk; have := h.kl k hk; omega
    · exact Nat.le_trans (len_ins _ _ _) (Nat.succ_le_succ h.lc)
  · exact h.more (Nat.le_succ _)
theorem Gd.recv {s s2 : St} {n : Nat} (h : Gd s n) (p : P5) (x hh : Int) : Gd (recvS s s2 p x hh) (n + 1) := by
  unfold recvS
  split
  · split
    · exact ⟨h.sn, by show 1 ≤ s.rc + 1; have := h.rc; omega, h.ak, h.kl, h.nd, nodup_ins h.na, Nat.le_succ_of_le h.lc, Nat.le_trans (len_ins _ _ _) (Nat.succ_le_succ h.la)⟩
    · exact ⟨h.sn, h.rc, h.ak, h.kl, h.nd, nodup_ins h.na, Nat.le_succ_of_le h.lc, Nat.le_trans (len_ins _ _ _) (Nat.succ_le_succ h.la)⟩
  · exact h.more (Nat.le_succ _)
theorem Gd.dele {s s1 : St} {n : Nat} (h : Gd s n) (k : Int) (e1 : s1.cm = del k s.cm) (e2 : s1.ac = s.ac) (e3 : s1.sn = s.sn) (e4 : s1.rc = s.rc) (e5 : s.ak ≤ s1.ak) : Gd s1 (n + 1) := by
  refine ⟨by rw [e3]; exact h.sn, by rw [e4]; exact h.rc, Int.le_trans h.ak e5, fun j hj => ?_, by rw [e1]; exact nodup_del h.nd, by rw [e2]; exact h.na, by rw [e1]; exact Nat.le_succ_of_le (Nat.le_trans (len_del _ _) h.lc), by rw [e2]; exact Nat.le_succ_of_le h.la⟩
  rw [e3]
  rw [e1, lk_del k j h.nd] at hj
  by_cases e : j = k
  · rw [if_pos e] at hj; cases hj
  · rw [if_neg e] at hj; exact h.kl j hj
theorem Gd.ack {s s2 : St} {n : Nat} (h : Gd s n) (p : P5) (a : ByteArray) : Gd (ackT s s2 p a) (n + 1) := by
  unfold ackT
  split
  · split
    · exact h.dele p.s rfl rfl rfl rfl (by show s.ak ≤ s.ak + 1; omega)
    · exact h.dele p.s rfl rfl rfl rfl (Int.le_refl _)
  · exact h.more (Nat.le_succ _)
theorem Gd.tmo {s s2 : St} {n : Nat} (h : Gd s n) (p : P5) (hh : Int) : Gd (tmoS s s2 p hh) (n + 1) := by
  unfold tmoS
  split
  · exact h.dele p.s rfl rfl rfl rfl (Int.le_refl _)
  · exact h.more (Nat.le_succ _)
theorem Gd.none_sn {s : St} {n : Nat} (h : Gd s n) : Mg.lk s.sn s.cm = none := by
  cases hk : Mg.lk s.sn s.cm with
  | none => rfl
  | some C => exact absurd (h.kl s.sn (by rw [hk]; rfl)) (by omega)
/-- two ends of the program, at s and s', two of the document, at t and t' -/
structure Yw (W V : World) (E M N : Nat) (s : St) (E' M' N' : Nat) (s' : St) (B : Nat) (t : St) (B' : Nat) (t' : St) : Prop where
  bel : Below W.heap.size W V
  tab : Sha.Tab V
  l : LG V E M N s
  l' : LG V E' M' N' s'
  ap : E ≠ E' ∧ M ≠ M' ∧ M ≠ N' ∧ N ≠ M' ∧ N ≠ N'
  lo : (W.heap.size ≤ E ∧ W.heap.size ≤ M ∧ W.heap.size ≤ N) ∧ W.heap.size ≤ E' ∧ W.heap.size ≤ M' ∧ W.heap.size ≤ N'
  bb : B ≠ B' ∧ W.heap.size ≤ B ∧ W.heap.size ≤ B'
  pg : ∃ Ac mc cc Aa ma ca Ac' mc' cc' Aa' ma' ca', PN W.heap.size V B t Ac mc cc Aa ma ca ∧ PN W.heap.size V B' t' Ac' mc' cc' Aa' ma' ca' ∧ (∀ k, ((Value.slice Ac mc cc).ownBlock = some k ∨ (Value.slice Aa ma ca).ownBlock = some k) → (Value.slice Ac' mc' cc').ownBlock ≠ some k ∧ (Value.slice Aa' ma' ca').ownBlock ≠ some k)
section
variable {W V V' : World} {E M N : Nat} {s s1 : St} {E' M' N' : Nat} {s' : St} {B : Nat} {t t1 : St} {B' : Nat} {t' : St}
theorem Yw.swap (h : Yw W V E M N s E' M' N' s' B t B' t') : Yw W V E' M' N' s' E M N s B' t' B t := by
  obtain ⟨Ac, mc, cc, Aa, ma, ca, Ac', mc', cc', Aa', ma', ca', h1, h2, h3⟩ := h.pg
  exact ⟨h.bel, h.tab, h.l', h.l, ⟨h.ap.1.symm, h.ap.2.1.symm, h.ap.2.2.2.1.symm, h.ap.2.2.1.symm, h.ap.2.2.2.2.symm⟩, ⟨h.lo.2, h.lo.1⟩, ⟨h.bb.1.symm, h.bb.2.2, h.bb.2.1⟩, Ac', mc', cc', Aa', ma', ca', Ac, mc, cc, Aa, ma, ca, h2, h1, fun k hk => ⟨fun e => by rcases hk with hk | hk; exact (h3 k (.inl e)).1 hk; exact (h3 k (.inl e)).2 hk, fun e => by rcases hk with hk | hk; exact (h3 k (.inr e)).1 hk; exact (h3 k (.inr e)).2 hk⟩⟩
theorem Yw.below (h : Yw W V E M N s E' M' N' s' B t B' t') (b : Below V.heap.size V V') : Yw W V' E M N s E' M' N' s' B t B' t' := by
  obtain ⟨Ac, mc, cc, Aa, ma, ca, Ac', mc', cc', Aa', ma', ca', h1, h2, h3⟩ := h.pg
  exact ⟨h.bel.trans (b.mono h.bel.size), Sha.tab_below h.tab b, h.l.below b, h.l'.below b, h.ap, h.lo, h.bb, Ac, mc, cc, Aa, ma, ca, Ac', mc', cc', Aa', ma', ca', h1.below b, h2.below b, h3⟩
/-- the document's ends stand while the program's end turns -/
theorem pn_frl {b0 : Nat} {Ac Aa : Option Addr} {mc cc ma ca : Nat} (h : PN b0 V B t Ac mc cc Aa ma ca) (f : FrL E M N V V') (l : LG V E M N s) : PN b0 V' B t Ac mc cc Aa ma ca := by
  refine h.of_eq fun k cs ty q hk hor => f.block k (lt_of hk) (fun e => ?_) (mg_ne l.com hk) (mg_ne l.ack hk)
  subst e
  rcases hor with e | e
  · have h1 := h.box
    rw [← e, l.box] at h1
    injection h1 with h1
    injection h1 with _ h1
    exact absurd h1 (by decide)
  · rw [l.box] at hk
    injection hk with hk
    injection hk with _ hk
    rw [e] at hk
    exact absurd hk (by decide)
theorem Yw.prog (h : Yw W V E M N s E' M' N' s' B t B' t') (f : FrL E M N V V') (l : LG V' E M N s1) : Yw W V' E M N s1 E' M' N' s' B t B' t' := by
  obtain ⟨a1, a2, a3, a4, a5⟩ := h.ap
  obtain ⟨Ac, mc, cc, Aa, ma, ca, Ac', mc', cc', Aa', ma', ca', h1, h2, h3⟩ := h.pg
  exact ⟨f.below h.bel h.bel.size h.lo.1.1 h.lo.1.2.1 h.lo.1.2.2, f.tab h.tab h.l, l, h.l'.of_eq (f.block _ h.l'.lt.1 a1.symm (mg_ne h.l.com h.l'.box) (mg_ne h.l.ack h.l'.box)) (f.block _ h.l'.lt.2.1 (mg_ne h.l'.com h.l.box).symm a2.symm a4.symm) (f.block _ h.l'.lt.2.2 (mg_ne h.l'.ack h.l.box).symm a3.symm a5.symm), h.ap, h.lo, h.bb, Ac, mc, cc, Aa, ma, ca, Ac', mc', cc', Aa', ma', ca', pn_frl h1 f h.l, pn_frl h2 f h.l, h3⟩
/-- the program's ends stand while the document's end turns -/
theorem lg_fp {b0 : Nat} {Ac Aa : Option Addr} {mc cc ma ca : Nat} (l : LG V E M N s) (h : PN b0 V B t Ac mc cc Aa ma ca) (f : FP B (Value.slice Ac mc cc).ownBlock (Value.slice Aa ma ca).ownBlock V V') : LG V' E M N s := by
  have neB : ∀ {k}, (∀ cs q, V.heap[k]? ≠ some (Obj.cells cs TRl q)) → k ≠ B := fun hn e => by subst e; exact hn _ _ h.box
  have neR : ∀ {k A m c L}, OwnT b0 V A m c L → (∀ cs q, V.heap[k]? ≠ some (Obj.cells cs TNt q)) → (Value.slice A m c).ownBlock ≠ some k := fun ho hn e => by
    obtain ⟨cur, hc⟩ := own_cellT ho _ e
    exact hn _ _ hc
  have key : ∀ k, k < V.heap.size → (∀ cs q, V.heap[k]? ≠ some (Obj.cells cs TRl q)) → (∀ cs q, V.heap[k]? ≠ some (Obj.cells cs TNt q)) → V'.heap[k]? = V.heap[k]? := fun k hk h1 h2 => f.block k hk (neB h1) (neR h.rc h2) (neR h.ra h2)
  refine l.of_eq (key E l.lt.1 (fun cs q e => ?_) (fun cs q e => ?_)) (key M l.lt.2.1 (fun cs q e => mg_ne l.com e rfl) (fun cs q e => mg_ne l.com e rfl)) (key N l.lt.2.2 (fun cs q e => mg_ne l.ack e rfl) (fun cs q e => mg_ne l.ack e rfl))
  · rw [l.box] at e; injection e with e; injection e with _ e; exact absurd e (by decide)
  · rw [l.box] at e; injection e with e; injection e with _ e; exact absurd e (by decide)
theorem Yw.page {Ac Aa : Option Addr} {mc cc ma ca : Nat} {Ac' Aa' : Option Addr} {mc' cc' ma' ca' : Nat} (h : Yw W V E M N s E' M' N' s' B t B' t') (hT : Sha.Tab W) (h1 : PN W.heap.size V B t Ac mc cc Aa ma ca) (h2 : PN W.heap.size V B' t' Ac' mc' cc' Aa' ma' ca') (h3 : ∀ k, ((Value.slice Ac mc cc).ownBlock = some k ∨ (Value.slice Aa ma ca).ownBlock = some k) → (Value.slice Ac' mc' cc').ownBlock ≠ some k ∧ (Value.slice Aa' ma' ca').ownBlock ≠ some k)
    (hx : PX W.heap.size B (Value.slice Ac mc cc).ownBlock (Value.slice Aa ma ca).ownBlock V t1 V') : Yw W V' E M N s E' M' N' s' B t1 B' t' := by
  obtain ⟨Xc, xm, xc, Xa, ym, yc, hp, hf, hc, ha⟩ := hx
  have hb : Below W.heap.size W V' := hf.below h.bel h.bel.size h.bb.2.1 (fun k hk => own_geT h1.rc k hk) (fun k hk => own_geT h1.ra k hk)
  have k2 : PN W.heap.size V' B' t' Ac' mc' cc' Aa' ma' ca' := by
    have st : ∀ k, k < V.heap.size → k ≠ B → (Value.slice Ac mc cc).ownBlock ≠ some k → (Value.slice Aa ma ca).ownBlock ≠ some k → V'.heap[k]? = V.heap[k]? := hf.block
    refine ⟨(st B' h2.lt h.bb.1.symm (fun e => own_neB h1.rc h2.box _ e rfl) (fun e => own_neB h1.ra h2.box _ e rfl)).trans h2.box, own_eqT h2.rc fun k hk => st k (own_ltT h2.rc k hk) (own_neB h2.rc h1.box k hk) (fun e => (h3 k (.inl e)).1 hk) (fun e => (h3 k (.inr e)).1 hk), own_eqT h2.ra fun k hk => st k (own_ltT h2.ra k hk) (own_neB h2.ra h1.box k hk) (fun e => (h3 k (.inl e)).2 hk) (fun e => (h3 k (.inr e)).2 hk), h2.d, h2.cok, h2.aok⟩
  refine ⟨hb, Sha.tab_below hT hb, lg_fp h.l h1 hf, lg_fp h.l' h1 hf, h.ap, h.lo, h.bb, Xc, xm, xc, Xa, ym, yc, Ac', mc', cc', Aa', ma', ca', hp, k2, fun k hk => ?_⟩
  have hor : (Value.slice Ac mc cc).ownBlock = some k ∨ (Value.slice Aa ma ca).ownBlock = some k ∨ V.heap.size ≤ k := by
    rcases hk with hk | hk
    · rcases hc k hk with e | e
      · exact .inl e
      · exact .inr (.inr e)
    · rcases ha k hk with e | e
      · exact .inr (.inl e)
      · exact .inr (.inr e)
  rcases hor with e | e | e
  · exact h3 k (.inl e)
  · exact h3 k (.inr e)
  · exact ⟨fun e2 => by have := own_ltT h2.rc k e2; omega, fun e2 => by have := own_ltT h2.ra k e2; omega⟩
variable {n : Nat}
theorem Yw.send (h : Yw W V E M N s E' M' N' s' B t B' t') (g : Gd s n) (p : P5) (hp : p.ok) (hh : Int) :
    Calls Tryz.prog 8 #[.pointer (some ⟨E, 0, none⟩), pkv p, .int .u64 hh] V fun e w' => e = .returned (.tuple #[pval (sendP s p hh), .int .i64 (sendC s p hh)]) ∧ Yw W w' E M N (sendS s p hh) E' M' N' s' B t B' t' :=
  (send_any p hh h.tab h.l hp ⟨by have := g.sn; omega, g.sn.2⟩).mono fun e w' ⟨h1, h2, h3⟩ => ⟨h1, h.prog h3 h2⟩
theorem Yw.psend (h : Yw W V E M N s1 E' M' N' s' B t B' t') (hT : Sha.Tab W) (g : Gd t n) (hn : n ≤ 1000000) (p : P5) (hp : p.ok) (hh : Int) :
    Calls Tryz.prog 9 #[.pointer (some ⟨B, 0, none⟩), pkv p, .int .u64 hh] V fun e w' => e = .returned (.tuple #[pval (sendP t p hh), .int .i64 (sendC t p hh)]) ∧ Yw W w' E M N s1 E' M' N' s' B (sendS t p hh) B' t' := by
  obtain ⟨Ac, mc, cc, Aa, ma, ca, Ac', mc', cc', Aa', ma', ca', h1, h2, h3⟩ := h.pg
  exact (psent_any p hh h1 h.bel.size (Nat.le_trans g.lc hn) hp g.none_sn ⟨by have := g.sn; omega, g.sn.2⟩).mono fun e w' ⟨e1, e2⟩ => ⟨e1, h.page hT h1 h2 h3 e2⟩
theorem Yw.recv (h : Yw W V E M N s E' M' N' s' B t B' t') (g : Gd s n) (g' : Gd s' n) (p : P5) (hp : p.ok) (hh x : Int) (hx : IntKind.i64.wrap (1 - s.sd) = x) :
    Calls Tryz.prog 10 #[.pointer (some ⟨E, 0, none⟩), pkv p, .int .u64 hh, .pointer (some ⟨E', 0, none⟩)] V fun e w' => e = .returned (.tuple #[.string (recvT s s' p x hh), .int .i64 (recvC s s' p x hh)]) ∧ Yw W w' E M N (recvS s s' p x hh) E' M' N' s' B t B' t' :=
  (recv_any p hh x h.tab h.l h.l' hp hx (by have := g.rc; omega) (fun hc => by have := g'.kl _ hc; have := g'.sn; omega)).mono fun e w' ⟨h1, h2, h3⟩ => ⟨h1, h.prog h3 h2⟩
theorem Yw.precv (h : Yw W V E M N s1 E' M' N' s' B t B' t') (hT : Sha.Tab W) (g : Gd t n) (g' : Gd t' n) (hn : n ≤ 1000000) (p : P5) (hp : p.ok) (hh x : Int) (hx : IntKind.i64.wrap (1 - t.sd) = x) :
    Calls Tryz.prog 11 #[.pointer (some ⟨B, 0, none⟩), pkv p, .int .u64 hh, .pointer (some ⟨B', 0, none⟩)] V fun e w' => e = .returned (.tuple #[.string (recvT t t' p x hh), .int .i64 (recvC t t' p x hh)]) ∧ Yw W w' E M N s1 E' M' N' s' B (recvS t t' p x hh) B' t' := by
  obtain ⟨Ac, mc, cc, Aa, ma, ca, Ac', mc', cc', Aa', ma', ca', h1, h2, h3⟩ := h.pg
  exact (prc_any p hh x h1 h2 h.bel.size hp hx (Nat.le_trans g.la hn) (Nat.le_trans g'.lc hn) (by have := g.rc; omega) (fun hc => by have := g'.kl _ hc; have := g'.sn; omega)).mono fun e w' ⟨e1, e2⟩ => ⟨e1, h.page hT h1 h2 h3 e2⟩
theorem Yw.ack (h : Yw W V E M N s E' M' N' s' B t B' t') (g : Gd s n) (p : P5) (hp : p.ok) (a : ByteArray) (ha : a.size ≤ 1000000) :
    Calls Tryz.prog 12 #[.pointer (some ⟨E, 0, none⟩), pkv p, .string a, .pointer (some ⟨E', 0, none⟩)] V fun e w' => e = .returned (.int .i64 (ackC s s' p a)) ∧ Yw W w' E M N (ackT s s' p a) E' M' N' s' B t B' t' :=
  (ack_any p a h.tab h.l h.l' hp ha (by have := g.ak; omega) (fun hc => by have := g.kl _ hc; have := g.sn; omega)).mono fun e w' ⟨h1, h2, h3⟩ => ⟨h1, h.prog h3 h2⟩
theorem Yw.pack (h : Yw W V E M N s1 E' M' N' s' B t B' t') (hT : Sha.Tab W) (g : Gd t n) (g' : Gd t' n) (hn : n ≤ 1000000) (p : P5) (hp : p.ok) (a : ByteArray) (ha : a.size ≤ 1000000) :
    Calls Tryz.prog 13 #[.pointer (some ⟨B, 0, none⟩), pkv p, .string a, .pointer (some ⟨B', 0, none⟩)] V fun e w' => e = .returned (.int .i64 (ackC t t' p a)) ∧ Yw W w' E M N s1 E' M' N' s' B (ackT t t' p a) B' t' := by
  obtain ⟨Ac, mc, cc, Aa, ma, ca, Ac', mc', cc', Aa', ma', ca', h1, h2, h3⟩ := h.pg
  exact (pak_any p a h1 h2 h.bel.size hp ha (Nat.le_trans g.lc hn) (Nat.le_trans g'.la hn) (by have := g.ak; omega) (fun hc => by have := g.kl _ hc; have := g.sn; omega)).mono fun e w' ⟨e1, e2⟩ => ⟨e1, h.page hT h1 h2 h3 e2⟩
theorem Yw.tmo (h : Yw W V E M N s E' M' N' s' B t B' t') (p : P5) (hp : p.ok) (hh : Int) :
    Calls Tryz.prog 14 #[.pointer (some ⟨E, 0, none⟩), pkv p, .int .u64 hh, .pointer (some ⟨E', 0, none⟩)] V fun e w' => e = .returned (.int .i64 (tmoC s s' p hh)) ∧ Yw W w' E M N (tmoS s s' p hh) E' M' N' s' B t B' t' :=
  (tmo_any p hh h.tab h.l h.l' hp).mono fun e w' ⟨h1, h2, h3⟩ => ⟨h1, h.prog h3 h2⟩
theorem Yw.ptmo (h : Yw W V E M N s1 E' M' N' s' B t B' t') (hT : Sha.Tab W) (g : Gd t n) (g' : Gd t' n) (hn : n ≤ 1000000) (p : P5) (hp : p.ok) (hh : Int) :
    Calls Tryz.prog 15 #[.pointer (some ⟨B, 0, none⟩), pkv p, .int .u64 hh, .pointer (some ⟨B', 0, none⟩)] V fun e w' => e = .returned (.int .i64 (tmoC t t' p hh)) ∧ Yw W w' E M N s1 E' M' N' s' B (tmoS t t' p hh) B' t' := by
  obtain ⟨Ac, mc, cc, Aa, ma, ca, Ac', mc', cc', Aa', ma', ca', h1, h2, h3⟩ := h.pg
  exact (pex_any p hh h1 h2 h.bel.size hp (Nat.le_trans g.lc hn) (Nat.le_trans g'.la hn)).mono fun e w' ⟨e1, e2⟩ => ⟨e1, h.page hT h1 h2 h3 e2⟩
theorem Yw.same (h : Yw W V E M N s E' M' N' s' B s B' t') (g : Gd s n) (hn : n ≤ 1000000) :
    Calls Tryz.prog 16 #[.pointer (some ⟨E, 0, none⟩), .pointer (some ⟨B, 0, none⟩)] V fun e w' => e = .returned (.bool true) ∧ Yw W w' E M N s E' M' N' s' B s B' t' := by
  obtain ⟨Ac, mc, cc, Aa, ma, ca, Ac', mc', cc', Aa', ma', ca', h1, h2, h3⟩ := h.pg
  exact (same_any h.l h1 (Nat.le_trans g.lc hn) (Nat.le_trans g.la hn) g.nd g.na).mono fun e w' ⟨e1, e2⟩ => ⟨e1, h.below e2⟩
end
theorem send_sd (s : St) (p : P5) (h : Int) : (sendS s p h).sd = s.sd := by unfold sendS; split <;> rfl
theorem recv_sd (s s2 : St) (p : P5) (x h : Int) : (recvS s s2 p x h).sd = s.sd := by unfold recvS; split; (split <;> rfl); rfl
theorem ack_sd (s s2 : St) (p : P5) (a : ByteArray) : (ackT s s2 p a).sd = s.sd := by unfold ackT; split; (split <;> rfl); rfl
theorem tmo_sd (s s2 : St) (p : P5) (h : Int) : (tmoS s s2 p h).sd = s.sd := by unfold tmoS; split <;> rfl
/-- packets' boxes stand -/
def PkF (V V' : World) : Prop := ∀ (k : Nat) cs q, V.heap[k]? = some (Obj.cells cs TPk q) → V'.heap[k]? = V.heap[k]?
section
variable {W V V' : World} {E M N : Nat} {s s1 : St} {E' M' N' : Nat} {s' : St} {B : Nat} {t t1 : St} {B' : Nat} {t' : St} {n : Nat}
theorem pkf_frl (f : FrL E M N V V') (l : LG V E M N s) : PkF V V' := fun k cs q hk => f.block k (lt_of hk) (fun e => by
  rw [e, l.box] at hk
  injection hk with hk
  injection hk with _ hk
  exact absurd hk (by decide)) (mg_ne l.com hk) (mg_ne l.ack hk)
theorem pkf_fp {b0 : Nat} {Ac Aa : Option Addr} {mc cc ma ca : Nat} (h : PN b0 V B t Ac mc cc Aa ma ca) (f : FP B (Value.slice Ac mc cc).ownBlock (Value.slice Aa ma ca).ownBlock V V') : PkF V V' := fun k cs q hk => f.block k (lt_of hk) (fun e => by
  rw [e, h.box] at hk
  injection hk with hk
  injection hk with _ hk
  exact absurd hk (by decide)) (fun e => by
  obtain ⟨cur, hc⟩ := own_cellT h.rc k e
  rw [hc] at hk
  injection hk with hk
  injection hk with _ hk
  exact absurd hk (by decide)) (fun e => by
  obtain ⟨cur, hc⟩ := own_cellT h.ra k e
  rw [hc] at hk
  injection hk with hk
  injection hk with _ hk
  exact absurd hk (by decide))
theorem Yw.sendF (h : Yw W V E M N s E' M' N' s' B t B' t') (g : Gd s n) (p : P5) (hp : p.ok) (hh : Int) :
    Calls Tryz.prog 8 #[.pointer (some ⟨E, 0, none⟩), pkv p, .int .u64 hh] V fun e w' => e = .returned (.tuple #[pval (sendP s p hh), .int .i64 (sendC s p hh)]) ∧ Yw W w' E M N (sendS s p hh) E' M' N' s' B t B' t' ∧ PkF V w' :=
  (send_any p hh h.tab h.l hp ⟨by have := g.sn; omega, g.sn.2⟩).mono fun e w' ⟨h1, h2, h3⟩ => ⟨h1, h.prog h3 h2, pkf_frl h3 h.l⟩
theorem Yw.psendF (h : Yw W V E M N s1 E' M' N' s' B t B' t') (hT : Sha.Tab W) (g : Gd t n) (hn : n ≤ 1000000) (p : P5) (hp : p.ok) (hh : Int) :
    Calls Tryz.prog 9 #[.pointer (some ⟨B, 0, none⟩), pkv p, .int .u64 hh] V fun e w' => e = .returned (.tuple #[pval (sendP t p hh), .int .i64 (sendC t p hh)]) ∧ Yw W w' E M N s1 E' M' N' s' B (sendS t p hh) B' t' ∧ PkF V w' := by
  obtain ⟨Ac, mc, cc, Aa, ma, ca, Ac', mc', cc', Aa', ma', ca', h1, h2, h3⟩ := h.pg
  exact (psent_any p hh h1 h.bel.size (Nat.le_trans g.lc hn) hp g.none_sn ⟨by have := g.sn; omega, g.sn.2⟩).mono fun e w' ⟨e1, e2⟩ => ⟨e1, h.page hT h1 h2 h3 e2, by obtain ⟨_, _, _, _, _, _, _, hf, _⟩ := e2; exact pkf_fp h1 hf⟩
theorem pn_onPk {b0 G : Nat} {cs : Array Value} {q : Nat × Nat} {Ac Aa : Option Addr} {mc cc ma ca : Nat} (h : PN b0 V B t Ac mc cc Aa ma ca) (hg : V.heap[G]? = some (.cells cs TPk q)) (ho : OnB G V V') : PN b0 V' B t Ac mc cc Aa ma ca := by
  refine h.of_eq fun k cs t q hk hor => ho.block k fun e => ?_
  rw [e, hg] at hk
  injection hk with hk
  injection hk with _ hk
  rcases hor with h1 | h1
  · have hb := h.box
    rw [← h1, e, hg] at hb
    injection hb with hb
    injection hb with _ hb
    exact absurd hb (by decide)
  · rw [h1] at hk; exact absurd hk (by decide)
theorem lg_onPk {G : Nat} {cs : Array Value} {q : Nat × Nat} (l : LG V E M N s) (hg : V.heap[G]? = some (.cells cs TPk q)) (ho : OnB G V V') : LG V' E M N s :=
  l.of_eq (ho.block E fun e => by have h := l.box; rw [e, hg] at h; injection h with h; injection h with _ h; exact absurd h (by decide)) (ho.block M (mg_ne l.com hg).symm) (ho.block N (mg_ne l.ack hg).symm)
theorem Yw.onPk {G : Nat} {cs : Array Value} {q : Nat × Nat} (h : Yw W V E M N s E' M' N' s' B t B' t') (hT : Sha.Tab W) (hg : V.heap[G]? = some (.cells cs TPk q)) (ho : OnB G V V') (hl : W.heap.size ≤ G) : Yw W V' E M N s E' M' N' s' B t B' t' := by
  obtain ⟨Ac, mc, cc, Aa, ma, ca, Ac', mc', cc', Aa', ma', ca', h1, h2, h3⟩ := h.pg
  have hb := ho.below h.bel hl
  exact ⟨hb, Sha.tab_below hT hb, lg_onPk h.l hg ho, lg_onPk h.l' hg ho, h.ap, h.lo, h.bb, Ac, mc, cc, Aa, ma, ca, Ac', mc', cc', Aa', ma', ca', pn_onPk h1 hg ho, pn_onPk h2 hg ho, h3⟩
end
theorem hst5 (V : World) (b : Nat) (cs : Array Value) (C : Array Value) (hC : C.size = 5) (hcs : cs.size = 5) (ho : C.all (·.oneCell') = true) (h : V.heap[b]? = some (.cells cs TPk (0, 0))) :
    (storeCells ⟨b, 0, none⟩ C.toList).run Tryz.prog V = .ok () (V.setRow b C) := by
  have h := run_storeCells_at (P := Tryz.prog) b 0 TPk C.toList 0 cs V h (by rw [Array.length_toList, hC, hcs]; decide) (fun u hu => (Array.all_eq_true'.1 ho) u (by simpa using hu))
  simp only [Nat.add_zero, List.take_zero, List.nil_append, Nat.zero_add] at h
  rw [h, List.drop_of_length_le (by rw [Array.length_toList, hcs, Array.length_toList, hC]; exact Nat.le_refl _), List.append_nil]
set_option maxRecDepth 100000 in
theorem lnew_bad (ch sd : Int) (o : Bool) (h : ch < 0 ∨ 3 < ch) (W : World) :
    Calls Tryz.prog 6 #[.int .i64 ch, .int .i64 sd, .bool o] W fun e w' => e = .returned (.tuple #[.pointer none, .int .i64 1]) ∧ w' = W := by
  rcases (show ch < 0 ∨ (¬ ch < 0 ∧ 4 ≤ ch) by omega) with g | ⟨g, g2⟩
  · go_enter Tryz.func6, Tryz.ntmps6
    go_wp2
    go_ret2
    exact ⟨rfl, rfl⟩
  · go_enter Tryz.func6, Tryz.ntmps6
    go_wp2
    go_ret2
    exact ⟨rfl, rfl⟩
end Go.Proofs.YtdljphbfbiganaaGreatDoor.Pl
