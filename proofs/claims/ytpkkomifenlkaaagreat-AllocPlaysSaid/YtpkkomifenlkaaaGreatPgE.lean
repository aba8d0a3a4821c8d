import Derived.Test.YtpkkomifenlkaaaGreatPgC
import Derived.Test.YtpkkomifenlkaaaGreatAlNw
import Derived.Deep.AppendLies
import Derived.Deep.DeepCutAuto
import Derived.Test.YtpkkomifenlkaaaGreatAlLawW
import Derived.Test.YtpkkomifenlkaaaGreatGapQ
import Derived.Test.YtpkkomifenlkaaaGreatPgA
import Derived.Deep.RegionHeld3
/- The page's allocator: New. -/
namespace Go.Proofs.YtpkkomifenlkaaaGreat.Au
open Go Go.RowKit Go.MuLone Conf
set_option linter.unusedVariables false

theorem infoPp : (Tryz.prog.info? TPp).map (fun i => (i.zero, i.size, i.bytes)) = some (some (.pointer none), 1, 8) := by kernel_rfl
theorem infoPr : (Tryz.prog.info? TPr).map (fun i => (i.zero, i.size, i.bytes)) = some (some (.slice none 0 0), 1, 24) := by kernel_rfl
theorem news_one (V : World) (v : Value) (T : TypeId) (n : Nat) (hn : n = V.heap.size) : ∀ j u, [v][j]? = some u → (V.alloc (.cells #[v] T)).cell? ((⟨n, 0, none⟩ : Addr).add j) = some u := by
  intro j u h
  subst hn
  have := cell_of_row (V.alloc (.cells #[v] T)) V.heap.size j #[v] T (0, 0) (heap_alloc_new V _)
  match j with
  | 0 => exact this.trans (show some v = some u from h)
  | j + 1 => simp at h
theorem ones_pp (N : Nat) : ∀ u ∈ [Value.pointer (some ⟨N, 0, none⟩)], u.oneCell' = true := by simp [Value.oneCell']
theorem ones_sl (A : Option Addr) (n c : Nat) : ∀ u ∈ [Value.slice A n c], u.oneCell' = true := by simp [Value.oneCell']
/-- an allocator of the page's while it is made -/
structure PNW (w V : World) (S A o k : Nat) (c : Cfg) (sl v0 : Value) (rs : List Value) (lv : Value) (z : Nat → Pz) : Prop where
  cf : V.heap[w.heap.size]? = some (.cells (ccells c) TCf (0, 0))
  box : V.heap[S]? = some (.cells #[sl] TPGA (0, 0))
  lo : w.heap.size + 1 ≤ S
  rs : V.ownsRow (w.heap.size + 1) TPr 1 sl rs.length rs
  r0 : V.ownsRow (w.heap.size + 1) TPp 1 v0 o (pptrs z 0 o)
  lr : V.ownsRow (w.heap.size + 1) TPp 1 lv k (pptrs z o k)
  ne : ∀ j, lv.ownBlock = some j → v0.ownBlock ≠ some j
  it : ∀ i, i < o + k → PZ (w.heap.size + 1) V (z i) ⟨0, c.f11, [], []⟩ ∧ (z i).q = .slice none 0 0 ∧ (z i).h = .slice none 0 0
  ap : ∀ i j, i < o + k → j < o + k → i ≠ j → PApt (z i) (z j)
  bel : Below w.heap.size w V
section
variable {w V V1 X : World} {S A o k N Q g cap : Nat} {c : Cfg} {sl v0 lv : Value} {rs : List Value} {z : Nat → Pz}
/-- one more account -/
theorem PNW.push (h : PNW w V S A o k c sl v0 rs lv z) (b : Below V.heap.size V V1) (hN : V1.heap[N]? = some (.cells #[.int .u64 0, .int .u64 c.f11, .pointer (some ⟨Q, 0, none⟩), .slice none 0 0] TPn (0, 0))) (hQ : V1.heap[Q]? = some (.cells #[.slice none 0 0] Gp.TQh (0, 0))) (lN : V.heap.size ≤ N) (lQ : V.heap.size ≤ Q)
    (hown : X.ownsRow (w.heap.size + 1) TPp 1 (.slice (some ⟨g, 0, none⟩) (k + 1) cap) (k + 1) (pptrs z o k ++ [.pointer (some ⟨N, 0, none⟩)])) (hg : V1.grownBy X lv.ownBlock) (hat : lv.ownBlock = some g ∨ g = V1.heap.size) :
    PNW w X S A o (k + 1) c sl v0 rs (.slice (some ⟨g, 0, none⟩) (k + 1) cap) (upd z (o + k) ⟨N, Q, .slice none 0 0, .slice none 0 0⟩) := by
  have hlo := h.lo
  have hs := ltO h.box
  have hlr := (h.lr : V.ownsRow _ _ _ _ _ _)
  -- all of V's but the row stands
  have st : ∀ j, j < V.heap.size → some j ≠ lv.ownBlock → X.heap[j]? = V.heap[j]? := fun j hj hne => (hg.block j (Nat.lt_of_lt_of_le hj b.size) hne).trans (b.block j hj)
  have nr : ∀ {j : Nat} {a : Array Value} {T : TypeId} {f : Nat × Nat}, V.heap[j]? = some (.cells a T f) → T ≠ TPp → X.heap[j]? = V.heap[j]? := fun hk hT =>
    st _ (ltO hk) fun e => by
      obtain ⟨cs, fr, q⟩ := own_at h.lr e.symm
      exact cells_ne hk q hT rfl
  have n1 : ∀ {j : Nat} {a : Array Value} {T : TypeId} {f : Nat × Nat}, V1.heap[j]? = some (.cells a T f) → V.heap.size ≤ j → X.heap[j]? = V1.heap[j]? := fun hk hj =>
    hg.block _ (ltO hk) fun e => by have := (h.lr.lt _ e.symm).2; omega
  have eN := (n1 hN lN).trans hN
  have eQ := (n1 hQ lQ).trans hQ
  have old : ∀ i, i < o + k → upd z (o + k) ⟨N, Q, .slice none 0 0, .slice none 0 0⟩ i = z i := fun i hi => upd_off (by omega)
  refine ⟨(nr h.cf (by decide)).trans h.cf, (nr h.box (by decide)).trans h.box, hlo, own_same h.rs fun j hj => ?_, ?_, ?_, fun j hj e => ?_, fun i hi => ?_, fun i j hi hj hne => ?_, ?_⟩
  · obtain ⟨cs, fr, q⟩ := own_at h.rs hj; exact nr q (by decide)
  · rw [pptrs_eq (z := z) fun i hi => by rw [Nat.zero_add, old i (by omega)]]
    exact own_same h.r0 fun j hj => st j (h.r0.lt j hj).2 fun e => h.ne j e.symm hj
  · have e1 : pptrs (upd z (o + k) ⟨N, Q, .slice none 0 0, .slice none 0 0⟩) o (k + 1) = pptrs z o k ++ [.pointer (some ⟨N, 0, none⟩)] := by
      rw [pptrs_succ, upd_at, pptrs_eq (z := z) fun i hi => by rw [old _ (by omega)]]
    rw [e1]; exact hown
  · have hj : some g = some j := hj
    injection hj with hj
    subst hj
    rcases hat with q | q
    · exact h.ne g q e
    · have := (h.r0.lt g e).2
      have := b.size
      omega
  · by_cases e : i = o + k
    · rw [e, upd_at]
      exact ⟨⟨eN, by show _ ≤ N; omega, ⟨eQ, by show _ ≤ Q; omega, World.ownsRow_nil _ _ _ _, by simp, by simp, by simp⟩, World.ownsRow_nil _ _ _ _⟩, rfl, rfl⟩
    · rw [upd_off e]
      obtain ⟨h1, h2, h3⟩ := h.it i (by omega)
      refine ⟨h1.still (nr h1.box (by decide)) (nr h1.qh.box (by decide)) (fun j hj => ?_) fun j hj => ?_, h2, h3⟩
      · rw [h2] at hj; cases hj
      · rw [h3] at hj; cases hj
  · by_cases e : i = o + k
    · have e2 : j ≠ o + k := fun q => hne (e.trans q.symm)
      rw [e, upd_at, upd_off e2]
      obtain ⟨h1, h2, h3⟩ := h.it j (by omega)
      have l1 := h1.lt
      have l2 := h1.ltQ
      dsimp only at l1 l2
      exact ⟨by show N ≠ _; omega, by show Q ≠ _; omega, fun q hq => (by cases hq), fun q hq => (by cases hq)⟩
    · rw [upd_off e]
      by_cases e2 : j = o + k
      · rw [e2, upd_at]
        obtain ⟨h1, h2, h3⟩ := h.it i (by omega)
        have l1 := h1.lt
        have l2 := h1.ltQ
        dsimp only at l1 l2
        exact ⟨by show _ ≠ N; omega, by show _ ≠ Q; omega, fun q hq => (by rw [h2] at hq; cases hq), fun q hq => (by rw [h3] at hq; cases hq)⟩
      · rw [upd_off e2]
        exact h.ap i j (by omega) (by omega) hne
  · exact (h.bel.trans (b.mono h.bel.size)).grown hg (Nat.le_trans h.bel.size b.size) fun j hj => by have := (h.lr.lt j hj).1; omega
/-- a side is done: its row is stored -/
theorem PNW.rows (h : PNW w V S A o k c sl v0 rs lv z) (b : Below V.heap.size V V1)
    (hown : X.ownsRow (w.heap.size + 1) TPr 1 (.slice (some ⟨g, 0, none⟩) (rs.length + 1) cap) (rs.length + 1) (rs ++ [lv])) (hg : V1.grownBy X sl.ownBlock) :
    X.heap[S]? = some (.cells #[sl] TPGA (0, 0)) ∧ PNW w (X.setCell ⟨S, 0, none⟩ (.slice (some ⟨g, 0, none⟩) (rs.length + 1) cap)) S A o k c (.slice (some ⟨g, 0, none⟩) (rs.length + 1) cap) v0 (rs ++ [lv]) lv z := by
  have hlo := h.lo
  have nr : ∀ {j : Nat} {a : Array Value} {T : TypeId} {f : Nat × Nat}, V.heap[j]? = some (.cells a T f) → T ≠ TPr → X.heap[j]? = V.heap[j]? := fun hk hT =>
    (hg.block _ (Nat.lt_of_lt_of_le (ltO hk) b.size) fun e => by
      obtain ⟨cs, fr, q⟩ := own_at h.rs e.symm
      exact cells_ne hk q hT rfl).trans (b.block _ (ltO hk))
  have hS := (nr h.box (by decide)).trans h.box
  have ns : ∀ {j : Nat} {a : Array Value} {T : TypeId} {f : Nat × Nat}, V.heap[j]? = some (.cells a T f) → T ≠ TPr → T ≠ TPGA → (X.setCell ⟨S, 0, none⟩ (.slice (some ⟨g, 0, none⟩) (rs.length + 1) cap)).heap[j]? = V.heap[j]? := fun hk h1 h2 =>
    (Below.heap_setCell _ _ _ _ (cells_ne hk h.box h2)).trans (nr hk h1)
  refine ⟨hS, (ns h.cf (by decide) (by decide)).trans h.cf, by simp [World.setCell, Array.getElem?_modify, hS], hlo, ?_, own_same h.r0 fun j hj => ?_, own_same h.lr fun j hj => ?_, h.ne, fun i hi => ?_, h.ap, ?_⟩
  · rw [List.length_append, List.length_singleton]
    refine own_same hown fun j hj => Below.heap_setCell _ _ _ _ ?_
    obtain ⟨cs, fr, q⟩ := own_at hown hj
    exact cells_ne q hS (by decide)
  · obtain ⟨cs, fr, q⟩ := own_at h.r0 hj; exact ns q (by decide) (by decide)
  · obtain ⟨cs, fr, q⟩ := own_at h.lr hj; exact ns q (by decide) (by decide)
  · obtain ⟨h1, h2, h3⟩ := h.it i hi
    refine ⟨h1.still (ns h1.box (by decide) (by decide)) (ns h1.qh.box (by decide) (by decide)) (fun j hj => ?_) fun j hj => ?_, h2, h3⟩
    · rw [h2] at hj; cases hj
    · rw [h3] at hj; cases hj
  · exact ((h.bel.trans (b.mono h.bel.size)).grown hg (Nat.le_trans h.bel.size b.size) fun j hj => by have := (h.rs.lt j hj).1; omega).setCell (p := ⟨S, 0, none⟩) (by show w.heap.size ≤ S; omega) _
/-- the next side -/
theorem PNW.next (h : PNW w V S A 0 A c sl v0 rs lv z) : PNW w V S A A 0 c sl lv rs (.slice none 0 0) z :=
  ⟨h.cf, h.box, h.lo, h.rs, h.lr, World.ownsRow_nil _ _ _ _, fun j hj => (by cases hj), fun i hi => h.it i (by omega), fun i j hi hj => h.ap i j (by omega) (by omega), h.bel⟩
theorem PNW.pa (h : PNW w V S A A A c sl v0 [v0, lv] lv z) : PA (w.heap.size + 1) V S A sl v0 lv z (s00 c.f11) :=
  ⟨h.box, h.lo, h.rs, h.r0, h.lr, fun i hi => (h.it i hi).1, h.ap⟩
end
set_option maxRecDepth 20000 in
set_option maxHeartbeats 8000000 in
theorem pnew_any (c : Cfg) (A : Nat) (h1 : c.f1 = (A : Int)) (hA9 : A ≤ 1000000) (w : World) :
    Calls Tryz.prog 16 #[.agg c.cells] w fun e w' => ∃ S sl v0 v1 z, e = .returned (.pointer (some ⟨S, 0, none⟩)) ∧ PA (w.heap.size + 1) w' S A sl v0 v1 z (s00 c.f11) ∧ Below w.heap.size w w' := by
  obtain ⟨i0, hi, hz0, hz1, hz2⟩ := info_partsU infoPp
  obtain ⟨i1, hi', hz0', hz1', hz2'⟩ := info_partsU infoPr
  have h0 := heap_alloc_new w (.cells (ccells c) TCf)
  obtain ⟨w0, hw0⟩ : ∃ X, X = w.alloc (.cells (ccells c) TCf) := ⟨_, rfl⟩
  have hb0 : Below w.heap.size w w0 := by rw [hw0]; exact (Below.refl _ _).alloc (Nat.le_refl _) _
  have hz : w0.heap.size = w.heap.size + 1 := by rw [hw0]; simp
  rw [← hw0] at h0
  obtain ⟨S, hS⟩ : ∃ S, S = w0.heap.size := ⟨_, rfl⟩
  have ha := heap_alloc_new w0 (.cells #[.slice none 0 0] TPGA)
  obtain ⟨w2, hw2⟩ : ∃ X, X = w0.alloc (.cells #[.slice none 0 0] TPGA) := ⟨_, rfl⟩
  have hb2 : Below w0.heap.size w0 w2 := by rw [hw2]; exact (Below.refl _ _).alloc (Nat.le_refl _) _
  rw [← hw2, ← hS] at ha
  have HA : Hid (PNW w w2 S A 0 0 c (.slice none 0 0) (.slice none 0 0) [] (.slice none 0 0) (fun _ => ⟨0, 0, .slice none 0 0, .slice none 0 0⟩)) := Lib.hid
    ⟨kp hb2 h0, ha, by omega, World.ownsRow_nil _ _ _ _, World.ownsRow_nil _ _ _ _, World.ownsRow_nil _ _ _ _, fun j hj => (by cases hj), fun i hi => absurd hi (by omega), fun i j hi => absurd hi (by omega), hb0.trans (hb2.mono hb0.size)⟩
  have HF1 := Lib.hid h1
  have HA9 := Lib.hid hA9
  clear h0 hb0 h1 ha hb2 hA9 hz
  unfold Cfg.cells
  go_enter Tryz.func16, Tryz.ntmps16
  go_upto_region 1 with fail
  rw [← hw0]
  clear hw0
  go_upto_region 2 with fail
  rw [← hw2, ← hS]
  clear hw2 hS
  go_wp2_with fail
  refine wp_loop_rounds 3 ?_
  rw [rounds_succ]
  go_wp2_with fail
  go_loopw [5, 6] (fun lv iv wr => ∃ (k : Nat) (z : Nat → Pz), iv = .int .i64 (k : Int) ∧ k ≤ A ∧ PNW w wr S A 0 k c (.slice none 0 0) (.slice none 0 0) [] lv z) (fun _ iv _ => A - (intOf iv).toNat)
  case atStart => exact ⟨0, _, rfl, Nat.zero_le _, HA.out⟩
  case round =>
    obtain ⟨k, z, rfl, hk, hN⟩ := hrel
    have p1 := cell_of_row wr w.heap.size 1 _ _ (0, 0) hN.cf
    have p11 := cell_of_row wr w.heap.size 11 _ _ (0, 0) hN.cf
    simp only [List.getElem?_toArray, List.getElem?_cons_succ, List.getElem?_cons_zero] at p1 p11
    rw [HF1.out] at p1
    by_cases hkA : k < A
    · have d1 : decide ((k : Int) < (A : Int)) = true := decide_eq_true (by omega)
      obtain ⟨Al, cl, rfl⟩ := own_form hN.lr
      have b1 : Below wr.heap.size wr (wr.alloc (.cells #[.slice none 0 0] Gp.TQh)) := (Below.refl _ _).alloc (Nat.le_refl _) _
      have b2 := b1.alloc (by simp) (.cells #[.int .u64 0, .int .u64 c.f11, .pointer (some ⟨wr.heap.size, 0, none⟩), .slice none 0 0] TPn)
      have b3 := b2.alloc (by simp; omega) (.cells #[.pointer (some ⟨wr.heap.size + 1, 0, none⟩)] TPp)
      have eQ : (((wr.alloc (.cells #[.slice none 0 0] Gp.TQh)).alloc (.cells #[.int .u64 0, .int .u64 c.f11, .pointer (some ⟨wr.heap.size, 0, none⟩), .slice none 0 0] TPn)).alloc (.cells #[.pointer (some ⟨wr.heap.size + 1, 0, none⟩)] TPp)).heap[wr.heap.size]? = some (.cells #[.slice none 0 0] Gp.TQh (0, 0)) := (Below.heap_alloc _ _ _ (by simp; omega)).trans ((Below.heap_alloc _ _ _ (by simp)).trans (heap_alloc_new _ _))
      have eN : (((wr.alloc (.cells #[.slice none 0 0] Gp.TQh)).alloc (.cells #[.int .u64 0, .int .u64 c.f11, .pointer (some ⟨wr.heap.size, 0, none⟩), .slice none 0 0] TPn)).alloc (.cells #[.pointer (some ⟨wr.heap.size + 1, 0, none⟩)] TPp)).heap[wr.heap.size + 1]? = some (.cells #[.int .u64 0, .int .u64 c.f11, .pointer (some ⟨wr.heap.size, 0, none⟩), .slice none 0 0] TPn (0, 0)) := (Below.heap_alloc _ _ _ (by simp)).trans (by
        have := heap_alloc_new (wr.alloc (.cells #[.slice none 0 0] Gp.TQh)) (.cells #[.int .u64 0, .int .u64 c.f11, .pointer (some ⟨wr.heap.size, 0, none⟩), .slice none 0 0] TPn)
        simpa using this)
      have hnw := news_one ((wr.alloc (.cells #[.slice none 0 0] Gp.TQh)).alloc (.cells #[.int .u64 0, .int .u64 c.f11, .pointer (some ⟨wr.heap.size, 0, none⟩), .slice none 0 0] TPn)) (.pointer (some ⟨wr.heap.size + 1, 0, none⟩)) TPp (wr.heap.size + 1 + 1) (by simp)
      have HL := Lib.hid (own_same hN.lr fun j hj => b3.block j (hN.lr.lt j hj).2)
      have HX := Lib.hid (And.intro hN (And.intro b3 (And.intro eN eQ)))
      have HC := Lib.hid hnw
      have H1 := Lib.hid (ones_pp (wr.heap.size + 1))
      have HKb : Hid (k < 1000000) := Lib.hid (by have := HA9.out; omega)
      have hk9 := HKb.out
      have HSZ : Hid (w.heap.size + 1 ≤ (((wr.alloc (.cells #[.slice none 0 0] Gp.TQh)).alloc (.cells #[.int .u64 0, .int .u64 c.f11, .pointer (some ⟨wr.heap.size, 0, none⟩), .slice none 0 0] TPn)).alloc (.cells #[.pointer (some ⟨wr.heap.size + 1, 0, none⟩)] TPp)).heap.size) := Lib.hid (by have := b3.size; have := ltO hN.cf; omega)
      clear hN b1 b2 b3 eQ eN hnw
      go_wp2_with (at_builtin; refine wpList_append_lies _ rfl _ _ TPr rfl (w.heap.size + 1) TPp i0 (.pointer none) 1 8 Tryz.underlying86 hi hz0 hz1 hz2 rfl (by decide) _ _ _ rfl HL.out ⟨wr.heap.size + 1 + 1, 0, none⟩ 1 1 [.pointer (some ⟨wr.heap.size + 1, 0, none⟩)] rfl rfl HC.out H1.out (by decide) (by have := HKb.out; unfold maxLen; omega) (by have := HKb.out; omega) HSZ.out _ rfl ?_)
      intro g1 cap1 w6 hown hg6 hat2 _
      have hP := PNW.push HX.out.1 HX.out.2.1 HX.out.2.2.1 HX.out.2.2.2 (Nat.le_succ _) (Nat.le_refl _) hown hg6 (by simpa using hat2)
      have HP := Lib.hid hP
      clear hown hg6 hat2 hP HX HL HC H1 HSZ p1 p11
      go_wp2
      go_roundw
      case rel => exact ⟨k + 1, _, by go_num, hkA, HP.out⟩
      case measure => simp [intOf]; omega
    · obtain rfl : A = k := by omega
      have d1 : decide ((A : Int) < (A : Int)) = false := decide_eq_false (by omega)
      obtain ⟨Al, cl, rfl⟩ := own_form hN.lr
      have q0 := cell_of_row wr S 0 _ _ (0, 0) hN.box
      have b1 : Below wr.heap.size wr (wr.alloc (.cells #[.slice Al A cl] TPr)) := (Below.refl _ _).alloc (Nat.le_refl _) _
      have HX := Lib.hid (And.intro hN b1)
      have hrow := own_same hN.rs fun j hj => b1.block j (hN.rs.lt j hj).2
      have HL : Hid ((wr.alloc (.cells #[.slice Al A cl] TPr)).ownsRow (w.heap.size + 1) TPr 1 (.slice none 0 0) 0 []) := Lib.hid hrow
      have HC := Lib.hid (news_one wr (.slice Al A cl) TPr wr.heap.size rfl)
      have H1 := Lib.hid (ones_sl Al A cl)
      have HSZ : Hid (w.heap.size + 1 ≤ (wr.alloc (.cells #[.slice Al A cl] TPr)).heap.size) := Lib.hid (by have := b1.size; have := ltO hN.cf; omega)
      clear hN b1 hrow p11 
      go_wp2_with (at_builtin; refine wpList_append_lies _ rfl _ _ 83 rfl (w.heap.size + 1) TPr i1 (.slice none 0 0) 1 24 Tryz.underlying83 hi' hz0' hz1' hz2' rfl (by decide) _ _ _ rfl HL.out ⟨wr.heap.size, 0, none⟩ 1 1 [.slice Al A cl] rfl rfl HC.out H1.out (by decide) (by decide) (by decide) HSZ.out _ rfl ?_)
      intro g1 cap1 w6 hown hg6 hat2 _
      obtain ⟨hS6, hP⟩ := PNW.rows HX.out.1 HX.out.2 hown hg6
      have c6 := cell_of_row w6 S 0 _ _ (0, 0) hS6
      have g6 : w6.frozen? ⟨S, 0, none⟩ = false := by simp [World.frozen?, hS6]
      have HP := Lib.hid hP
      clear hown hg6 hat2 hP hS6 HX HL HC H1 HSZ q0 p1
      have hS2 := PNW.next HP.out
      have HS2 : Hid (PNW w (w6.setCell ⟨S, 0, none⟩ (.slice (some ⟨g1, 0, none⟩) 1 cap1)) S A A 0 c (.slice (some ⟨g1, 0, none⟩) 1 cap1) (.slice Al A cl) [.slice Al A cl] (.slice none 0 0) z) := Lib.hid hS2
      clear hS2 HP hk hkA
      obtain ⟨w7, hw7⟩ : ∃ X, X = w6.setCell ⟨S, 0, none⟩ (.slice (some ⟨g1, 0, none⟩) 1 cap1) := ⟨_, rfl⟩
      go_upto_region 4 with fail
      rw [← hw7] at HS2 ⊢
      clear hw7 c6 g6 d1
      go_wp2_with fail
      rw [rounds_succ]
      go_wp2_with fail
      go_loopw [5, 6] (fun lv iv wr => ∃ (k : Nat) (z : Nat → Pz), iv = .int .i64 (k : Int) ∧ k ≤ A ∧ PNW w wr S A A k c (.slice (some ⟨g1, 0, none⟩) 1 cap1) (.slice Al A cl) [.slice Al A cl] lv z) (fun _ iv _ => A - (intOf iv).toNat)
      case atStart => exact ⟨0, _, rfl, Nat.zero_le _, HS2.out⟩
      case round =>
        obtain ⟨k, z, rfl, hk, hN⟩ := hrel
        have p1 := cell_of_row wr w.heap.size 1 _ _ (0, 0) hN.cf
        have p11 := cell_of_row wr w.heap.size 11 _ _ (0, 0) hN.cf
        simp only [List.getElem?_toArray, List.getElem?_cons_succ, List.getElem?_cons_zero] at p1 p11
        rw [HF1.out] at p1
        by_cases hkA : k < A
        · have d1 : decide ((k : Int) < (A : Int)) = true := decide_eq_true (by omega)
          obtain ⟨Al1, cl1, rfl⟩ := own_form hN.lr
          have b1 : Below wr.heap.size wr (wr.alloc (.cells #[.slice none 0 0] Gp.TQh)) := (Below.refl _ _).alloc (Nat.le_refl _) _
          have b2 := b1.alloc (by simp) (.cells #[.int .u64 0, .int .u64 c.f11, .pointer (some ⟨wr.heap.size, 0, none⟩), .slice none 0 0] TPn)
          have b3 := b2.alloc (by simp; omega) (.cells #[.pointer (some ⟨wr.heap.size + 1, 0, none⟩)] TPp)
          have eQ : (((wr.alloc (.cells #[.slice none 0 0] Gp.TQh)).alloc (.cells #[.int .u64 0, .int .u64 c.f11, .pointer (some ⟨wr.heap.size, 0, none⟩), .slice none 0 0] TPn)).alloc (.cells #[.pointer (some ⟨wr.heap.size + 1, 0, none⟩)] TPp)).heap[wr.heap.size]? = some (.cells #[.slice none 0 0] Gp.TQh (0, 0)) := (Below.heap_alloc _ _ _ (by simp; omega)).trans ((Below.heap_alloc _ _ _ (by simp)).trans (heap_alloc_new _ _))
          have eN : (((wr.alloc (.cells #[.slice none 0 0] Gp.TQh)).alloc (.cells #[.int .u64 0, .int .u64 c.f11, .pointer (some ⟨wr.heap.size, 0, none⟩), .slice none 0 0] TPn)).alloc (.cells #[.pointer (some ⟨wr.heap.size + 1, 0, none⟩)] TPp)).heap[wr.heap.size + 1]? = some (.cells #[.int .u64 0, .int .u64 c.f11, .pointer (some ⟨wr.heap.size, 0, none⟩), .slice none 0 0] TPn (0, 0)) := (Below.heap_alloc _ _ _ (by simp)).trans (by
            have := heap_alloc_new (wr.alloc (.cells #[.slice none 0 0] Gp.TQh)) (.cells #[.int .u64 0, .int .u64 c.f11, .pointer (some ⟨wr.heap.size, 0, none⟩), .slice none 0 0] TPn)
            simpa using this)
          have hnw := news_one ((wr.alloc (.cells #[.slice none 0 0] Gp.TQh)).alloc (.cells #[.int .u64 0, .int .u64 c.f11, .pointer (some ⟨wr.heap.size, 0, none⟩), .slice none 0 0] TPn)) (.pointer (some ⟨wr.heap.size + 1, 0, none⟩)) TPp (wr.heap.size + 1 + 1) (by simp)
          have HL := Lib.hid (own_same hN.lr fun j hj => b3.block j (hN.lr.lt j hj).2)
          have HX := Lib.hid (And.intro hN (And.intro b3 (And.intro eN eQ)))
          have HC := Lib.hid hnw
          have H1 := Lib.hid (ones_pp (wr.heap.size + 1))
          have HKb : Hid (k < 1000000) := Lib.hid (by have := HA9.out; omega)
          have hk9 := HKb.out
          have HSZ : Hid (w.heap.size + 1 ≤ (((wr.alloc (.cells #[.slice none 0 0] Gp.TQh)).alloc (.cells #[.int .u64 0, .int .u64 c.f11, .pointer (some ⟨wr.heap.size, 0, none⟩), .slice none 0 0] TPn)).alloc (.cells #[.pointer (some ⟨wr.heap.size + 1, 0, none⟩)] TPp)).heap.size) := Lib.hid (by have := b3.size; have := ltO hN.cf; omega)
          clear hN b1 b2 b3 eQ eN hnw
          go_wp2_with (at_builtin; refine wpList_append_lies _ rfl _ _ TPr rfl (w.heap.size + 1) TPp i0 (.pointer none) 1 8 Tryz.underlying86 hi hz0 hz1 hz2 rfl (by decide) _ _ _ rfl HL.out ⟨wr.heap.size + 1 + 1, 0, none⟩ 1 1 [.pointer (some ⟨wr.heap.size + 1, 0, none⟩)] rfl rfl HC.out H1.out (by decide) (by have := HKb.out; unfold maxLen; omega) (by have := HKb.out; omega) HSZ.out _ rfl ?_)
          intro g1 cap1 w6 hown hg6 hat2 _
          have hP := PNW.push HX.out.1 HX.out.2.1 HX.out.2.2.1 HX.out.2.2.2 (Nat.le_succ _) (Nat.le_refl _) hown hg6 (by simpa using hat2)
          have HP := Lib.hid hP
          clear hown hg6 hat2 hP HX HL HC H1 HSZ p1 p11
          go_wp2
          go_roundw
          case rel => exact ⟨k + 1, _, by go_num, hkA, HP.out⟩
          case measure => simp [intOf]; omega
        · obtain rfl : A = k := by omega
          have d1 : decide ((A : Int) < (A : Int)) = false := decide_eq_false (by omega)
          obtain ⟨Al1, cl1, rfl⟩ := own_form hN.lr
          have q0 := cell_of_row wr S 0 _ _ (0, 0) hN.box
          have b1 : Below wr.heap.size wr (wr.alloc (.cells #[.slice Al1 A cl1] TPr)) := (Below.refl _ _).alloc (Nat.le_refl _) _
          have HX := Lib.hid (And.intro hN b1)
          have hrow := own_same hN.rs fun j hj => b1.block j (hN.rs.lt j hj).2
          have HL : Hid ((wr.alloc (.cells #[.slice Al1 A cl1] TPr)).ownsRow (w.heap.size + 1) TPr 1 (.slice (some ⟨g1, 0, none⟩) 1 cap1) 1 [.slice Al A cl]) := Lib.hid hrow
          have HC := Lib.hid (news_one wr (.slice Al1 A cl1) TPr wr.heap.size rfl)
          have H1 := Lib.hid (ones_sl Al1 A cl1)
          have HSZ : Hid (w.heap.size + 1 ≤ (wr.alloc (.cells #[.slice Al1 A cl1] TPr)).heap.size) := Lib.hid (by have := b1.size; have := ltO hN.cf; omega)
          clear hN b1 hrow p11 
          go_wp2_with (at_builtin; refine wpList_append_lies _ rfl _ _ 83 rfl (w.heap.size + 1) TPr i1 (.slice none 0 0) 1 24 Tryz.underlying83 hi' hz0' hz1' hz2' rfl (by decide) _ _ _ rfl HL.out ⟨wr.heap.size, 0, none⟩ 1 1 [.slice Al1 A cl1] rfl rfl HC.out H1.out (by decide) (by decide) (by decide) HSZ.out _ rfl ?_)
          intro g1 cap1 w6 hown hg6 hat2 _
          obtain ⟨hS6, hP⟩ := PNW.rows HX.out.1 HX.out.2 hown hg6
          have c6 := cell_of_row w6 S 0 _ _ (0, 0) hS6
          have g6 : w6.frozen? ⟨S, 0, none⟩ = false := by simp [World.frozen?, hS6]
          have HP := Lib.hid hP
          clear hown hg6 hat2 hP hS6 HX HL HC H1 HSZ q0 p1
          have hpa : PA (w.heap.size + 1) _ S A _ (.slice Al A cl) (.slice Al1 A cl1) z (s00 c.f11) := PNW.pa HP.out
          have HPA := Lib.hid (And.intro hpa (PNW.bel HP.out))
          clear hpa HP hk hkA
          go_upto_region 4 with fail
          obtain ⟨w8, hw8⟩ : ∃ X, X = w6.setCell ⟨S, 0, none⟩ (.slice (some ⟨g1, 0, none⟩) (1 + 1) cap1) := ⟨_, rfl⟩
          change Hid (PA (w.heap.size + 1) (w6.setCell ⟨S, 0, none⟩ (.slice (some ⟨g1, 0, none⟩) (1 + 1) cap1)) S A _ _ _ _ _ ∧ Below w.heap.size w (w6.setCell ⟨S, 0, none⟩ (.slice (some ⟨g1, 0, none⟩) (1 + 1) cap1))) at HPA
          rw [← hw8] at HPA ⊢
          clear hw8 c6 g6 d1
          go_wp2_with fail
          rw [rounds_succ]
          go_wp2
          go_ret
          exact ⟨S, _, _, _, _, rfl, HPA.out⟩
end Go.Proofs.YtpkkomifenlkaaaGreat.Au
/- AllocPlays: the law's world; Same. -/
namespace Go.Proofs.YtpkkomifenlkaaaGreat.Au
open Go Go.RowKit Go.MuLone Conf
set_option linter.unusedVariables false

/-- the law's world: the program's allocator, the page's -/
structure Pw (W V : World) (base : Nat) (z0 z1 : Value) (y : Alo) (v : Nat → Value) (bp S : Nat) (sl p0 p1 : Value) (z : Nat → Pz) (s : Nat → Nu) : Prop where
  hb : W.heap.size ≤ base
  hp : W.heap.size ≤ bp
  ai : AIs base V y y.A y.A 0 z0 z1 v s
  pa : PA bp V S y.A sl p0 p1 z s
  A : 1 ≤ y.A ∧ y.A ≤ 4
  bel : Below W.heap.size W V
/-- a config's box -/
def Cb (V : World) (cb : Nat) (c : Cfg) : Prop := V.heap[cb]? = some (.cells (ccells c) TCf (0, 0))
section
variable {W V X : World} {base bp S cb : Nat} {z0 z1 sl p0 p1 : Value} {y : Alo} {v u : Nat → Value} {z : Nat → Pz} {s s' : Nat → Nu} {c : Cfg} {K0 : Nat}
theorem Pw.below (h : Pw W V base z0 z1 y v bp S sl p0 p1 z s) (b : Below V.heap.size V X) : Pw W X base z0 z1 y v bp S sl p0 p1 z s :=
  ⟨h.hb, h.hp, h.ai.below b, h.pa.below b, h.A, h.bel.trans (b.mono h.bel.size)⟩
theorem Cb.below (h : Cb V cb c) (b : Below V.heap.size V X) : Cb X cb c := kp b h
theorem Pw.asked (h : Pw W V base z0 z1 y v bp S sl p0 p1 z s) (a : AIs base X y y.A y.A 0 z0 z1 v s) (f : AF y y.A y.A v v V X) : Pw W X base z0 z1 y v bp S sl p0 p1 z s :=
  ⟨h.hb, h.hp, a, h.pa.af h.ai f, h.A, h.bel.trans ((f.below h.ai).mono h.hb)⟩
theorem Pw.kc (h : Pw W V base z0 z1 y v bp S sl p0 p1 z s) (f : AF y y.A y.A v u V X) (hc : Cb V cb c) : Cb X cb c :=
  (f.block cb (ltO hc) (h.ai.fre_type hc (by decide) (by decide) (by decide) (by decide))).trans hc
theorem idx_of {A sd a : Nat} (h : sd < 2) (ha : a < A) : idx A (sd : Int) ((a : Int) + 1) = some (sd * A + a) ∧ sd * A + a < A + A := by
  have hl : sd * A + a < A + A := by
    rcases (show sd = 0 ∨ sd = 1 by omega) with rfl | rfl <;> omega
  refine ⟨?_, hl⟩
  unfold idx
  rw [if_pos (by omega)]
  congr 1
  have e1 : ((sd : Int)).toNat = sd := by omega
  have e2 : ((a : Int) + 1 - 1).toNat = a := by omega
  rw [e1, e2]
/-- runs that are read -/
def RunsC (w : World) (v : Value) (ls : List (Int × Int)) : Prop := ∃ A c, v = .slice A ls.length c ∧ ∀ i (h : i < ls.length), ∃ g, A = some ⟨g, 0, none⟩ ∧ g < w.heap.size ∧ w.cell? ⟨g, i * 2, none⟩ = some (.int .u64 ls[i].1) ∧ w.cell? ⟨g, i * 2 + 1, none⟩ = some (.int .u64 ls[i].2)
theorem runsC {b : Nat} {v : Value} {ls : List (Int × Int)} {w : World} (h : Gp.RunsV b v ls w) : RunsC w v ls := by
  rcases h with ⟨rfl, rfl⟩ | ⟨g, c, rfl, -, h, -⟩
  · exact ⟨none, 0, rfl, fun i hi => by simp at hi⟩
  · refine ⟨some ⟨g, 0, none⟩, c, rfl, fun i hi => ⟨g, rfl, h.1, ?_⟩⟩
    have := h.2 i _ (List.getElem?_eq_getElem hi)
    rw [Nat.zero_add] at this
    exact this
theorem RunsC.below {v : Value} {ls : List (Int × Int)} {w w' : World} (h : RunsC w v ls) (b : Below w.heap.size w w') : RunsC w' v ls := by
  obtain ⟨A, c, rfl, h⟩ := h
  refine ⟨A, c, rfl, fun i hi => ?_⟩
  obtain ⟨g, e, hg, h1, h2⟩ := h i hi
  exact ⟨g, e, Nat.lt_of_lt_of_le hg b.size, (World.cell?_of_block (b.block g hg)).trans h1, (World.cell?_of_block (b.block g hg)).trans h2⟩
theorem uc_cell {V : World} {b n c : Nat} {A : Option Addr} {l : List Int} (h : V.ownsRow b Gp.TU 1 (.slice A n c) n (Gp.uc l)) (hn : l.length = n) (i : Nat) (hi : i < n) : ∃ g, A = some ⟨g, 0, none⟩ ∧ V.cell? ⟨g, i, none⟩ = some (.int .u64 (l[i]'(by omega))) := by
  obtain ⟨g, e, -, -, hc⟩ := own_cellG h i hi (u := .int .u64 (l[i]'(by omega))) (by simp [Gp.uc, (by omega : i < l.length)])
  exact ⟨g, e, hc⟩
set_option maxRecDepth 20000 in
set_option maxHeartbeats 8000000 in
theorem lsame_any (c : Cfg) (hc : c.f1 = (y.A : Int)) (h : Pw W V base z0 z1 y v bp S sl p0 p1 z s) (hok : ∀ i, NOk (s i) K0) (hk : K0 ≤ 892) :
    Calls Tryz.prog 18 #[.agg c.cells, .pointer (some ⟨y.S, 0, none⟩), .pointer (some ⟨S, 0, none⟩), .int .i64 4] V fun e w' => e = .returned (.bool true) ∧ Below W.heap.size W w' := by
  have hcf : Cb (V.alloc (.cells (ccells c) TCf)) V.heap.size c := heap_alloc_new V _
  have h0 := h.below ((Below.refl V.heap.size V).alloc (Nat.le_refl _) (.cells (ccells c) TCf))
  obtain ⟨w0, hw0⟩ : ∃ X, X = V.alloc (.cells (ccells c) TCf) := ⟨_, rfl⟩
  obtain ⟨cb, hcb⟩ : ∃ n, n = V.heap.size := ⟨_, rfl⟩
  rw [← hw0, ← hcb] at hcf
  rw [← hw0] at h0
  have H0 := Lib.hid (And.intro h0 hcf)
  have HK := Lib.hid (And.intro hok hk)
  have HC1 := Lib.hid hc
  have hA := h.A
  obtain ⟨A, hAd⟩ : ∃ A, A = y.A := ⟨_, rfl⟩
  rw [← hAd] at hA
  have HAd := Lib.hid hAd
  have hA4 : A ≤ 4 := hA.2
  clear h h0 hcf hok hk hc hA hAd
  unfold Cfg.cells
  go_enter Tryz.func18, Tryz.ntmps18
  go_upto_region 1 with fail
  rw [← hw0, ← hcb]
  clear hw0 hcb
  go_wp2_with fail
  go_loopw [9] (fun sv wr => ∃ sd : Nat, sv = .int .i64 (sd : Int) ∧ sd ≤ 2 ∧ Pw W wr base z0 z1 y v bp S sl p0 p1 z s ∧ Cb wr cb c) (fun sv _ => 2 - (intOf sv).toNat)
  case atStart => exact ⟨0, rfl, by decide, H0.out⟩
  case round =>
    clear H0
    obtain ⟨sd, rfl, hsd, hP⟩ := hrel
    have HP := Lib.hid hP
    clear hP
    by_cases hs2 : sd < 2
    · have hsz : (sd : Int) < 2 := by omega
      go_wp2_with fail
      go_loopw [10] (fun av wr => ∃ a : Nat, av = .int .i64 ((a : Int) + 1) ∧ a ≤ A ∧ Pw W wr base z0 z1 y v bp S sl p0 p1 z s ∧ Cb wr cb c) (fun av _ => A + 1 - (intOf av).toNat)
      case atStart => exact ⟨0, rfl, Nat.zero_le _, HP.out⟩
      case round =>
        clear HP
        obtain ⟨a, rfl, ha, hP⟩ := hrel
        have HP := Lib.hid hP
        have p1 := cell_of_row wr cb 1 _ _ (0, 0) hP.2
        simp only [List.getElem?_toArray, List.getElem?_cons_succ, List.getElem?_cons_zero] at p1
        rw [HC1.out, ← HAd.out] at p1
        clear hP
        by_cases haA : a < A
        · have d1 : decide ((a : Int) + 1 ≤ (A : Int)) = true := decide_eq_true (by omega)
          obtain ⟨hi, hil⟩ := idx_of hs2 haA
          rw [HAd.out] at hi hil
          obtain ⟨i, hid⟩ : ∃ i, i = sd * y.A + a := ⟨_, rfl⟩
          rw [← hid] at hi hil
          have HI := Lib.hid (And.intro hi hil)
          have HAt := Lib.hid (pat_any (sd : Int) ((a : Int) + 1) i HP.out.1.pa hi (by have := HP.out.1.A; omega))
          have hEp := alEpoch (sd : Int) ((a : Int) + 1) HP.out.1.ai (by have := HP.out.1.A; omega)
          rw [hi] at hEp
          have HEp := Lib.hid hEp
          clear hi hil hid hEp
          go_wp2_with fail
          refine HAt.out.mono ?_
          rintro _ w1 ⟨rfl, hww⟩
          obtain rfl := hww.symm
          clear hww HAt p1 d1
          go_wp2_with fail
          refine HEp.out.mono ?_
          rintro _ w1 ⟨rfl, ai1, f1⟩
          have h1 := HP.out.1.asked ai1 f1
          have c1 := HP.out.1.kc f1 HP.out.2
          have hNx := alNext (sd : Int) ((a : Int) + 1) ai1 (by have := HP.out.1.A; omega)
          rw [HI.out.1] at hNx
          have HNx := Lib.hid hNx
          have H1 := Lib.hid (And.intro h1 c1)
          clear ai1 f1 h1 c1 hNx HEp HP
          simp only [ansEpoch]
          go_wp2_with fail
          refine HNx.out.mono ?_
          rintro _ w2 ⟨rfl, ai2, f2⟩
          have h2 := H1.out.1.asked ai2 f2
          have c2 := H1.out.1.kc f2 H1.out.2
          obtain ⟨n0, n1, -⟩ := PZ.cells (h2.pa.it i HI.out.2)
          have hFr := alFree (sd : Int) ((a : Int) + 1) ai2 (by have := h2.A; omega)
          rw [HI.out.1] at hFr
          have HFr := Lib.hid hFr
          have H2 := Lib.hid (And.intro h2 c2)
          clear ai2 f2 h2 c2 hFr HNx H1
          simp only [ansNext]
          obtain ⟨E, hE⟩ : ∃ E, E = (s i).ep := ⟨_, rfl⟩
          obtain ⟨Y, hY⟩ : ∃ Y, Y = (s i).nx := ⟨_, rfl⟩
          rw [← hE] at n0 ⊢
          rw [← hY] at n1 ⊢
          have eE : (E != E) = false := by simp
          have eY : (Y != Y) = false := by simp
          clear hE hY
          go_wp2_with fail
          refine HFr.out.mono ?_
          rintro _ w3 ⟨v2, rfl, hfr, ai3, f3⟩
          obtain ⟨ls, hr, hs, he⟩ := hfr
          have h3 := H2.out.1.asked ai3 f3
          have c3 := H2.out.1.kc f3 H2.out.2
          have hpi := h3.pa.it i HI.out.2
          obtain ⟨-, -, m2, -⟩ := PZ.cells hpi
          have HRu := Lib.hid (Gp.qruns_any bp (z i).Q (z i).q (s i).L w3 hpi.qh)
          have hrc := runsC hr
          have H3 := Lib.hid (And.intro h3 (And.intro c3 hrc))
          have hrow : Gm.rowsF (s i).L (s i).L.length = ls := by rw [he]; exact Gm.rowsF_exp hs
          have HRow := Lib.hid hrow
          have hl9 : ls.length ≤ 900 := by
            have h5 := Gm.rowsF_len (s i).L (s i).L.length
            rw [hrow] at h5
            have := hpi.qh.few
            omega
          clear hr hs he ai3 f3 h3 c3 hpi hrc hrow n0 n1 eE eY HFr H2
          go_wp2_with fail
          refine HRu.out.mono ?_
          rintro _ w4 ⟨va, vb, rfl, hrr⟩
          rw [HRow.out] at hrr
          obtain ⟨A2, c2, rfl⟩ := own_form hrr.a
          obtain ⟨A3, c3, rfl⟩ := own_form hrr.b
          obtain ⟨Af, cf, rfl, hcs⟩ := H3.out.2.2.below hrr.bel
          have h4 := H3.out.1.below hrr.bel
          have c4 := Cb.below H3.out.2.1 hrr.bel
          have ra := hrr.a
          have rb := hrr.b
          rw [List.length_map] at ra rb
          obtain ⟨n, hn⟩ : ∃ n, n = ls.length := ⟨_, rfl⟩
          rw [List.length_map, List.length_map, ← hn]
          rw [← hn] at ra rb hl9
          have H4 := Lib.hid (And.intro h4 c4)
          have HCs := Lib.hid (And.intro hcs (And.intro ra (And.intro rb hn)))
          clear hrr h4 c4 ra rb hcs hn HRu H3 HRow m2
          have hn0 : ((n : Int) != (n : Int)) = false := by simp
          go_wp2_with fail
          clear hn0
          go_loopw [19] (fun kv wr => ∃ k : Nat, kv = .int .i64 (k : Int) ∧ k ≤ n ∧ ∃ q, wr = w4.drewN q) (fun kv _ => n - (intOf kv).toNat)
          case atStart => exact ⟨0, rfl, Nat.zero_le _, 0, rfl⟩
          case round =>
            obtain ⟨k, rfl, hkn, q, rfl⟩ := hrel
            by_cases hlt : k < n
            · obtain ⟨hcs, ra, rb, hn⟩ := HCs.out
              have hlk : k < ls.length := by omega
              obtain ⟨g1, rfl, -, d10, d11⟩ := hcs k hlk
              obtain ⟨g2, rfl, e1⟩ := uc_cell ra (by rw [List.length_map]; exact hn.symm) k hlt
              obtain ⟨g3, rfl, e2⟩ := uc_cell rb (by rw [List.length_map]; exact hn.symm) k hlt
              rw [List.getElem_map] at e1 e2
              generalize ls[k] = x at d10 d11 e1 e2
              have hk0 : (0 : Int) ≤ (k : Int) := by omega
              have hk1 : (k : Int) < (n : Int) := by omega
              clear hcs ra rb hn
              go_wp2_with fail
              go_quiet (fail)
              go_wp2
              go_roundw
              case rel => exact ⟨k + 1, by go_num, hlt, _, rfl⟩
              case measure => simp [intOf]; omega
            · obtain rfl : k = n := by omega
              have hkk : ¬ ((k : Int) < (k : Int)) := by omega
              have bq := Gp.below_drewN (Below.refl w4.heap.size w4) q
              have h5 := H4.out.1.below bq
              have c5 := Cb.below H4.out.2 bq
              have H5 := Lib.hid (And.intro h5 c5)
              obtain ⟨w5, hw5⟩ : ∃ X, X = w4.drewN q := ⟨_, rfl⟩
              rw [← hw5] at H5 ⊢
              clear bq h5 c5 hw5 H4 HCs
              go_wp2_with fail
              go_loopw [20] (fun wv wr => ∃ q : Nat, wv = .int .i64 ((q : Int) + 1) ∧ q ≤ 4 ∧ Pw W wr base z0 z1 y v bp S sl p0 p1 z s ∧ Cb wr cb c) (fun wv _ => 5 - (intOf wv).toNat)
              case atStart => exact ⟨0, rfl, by decide, H5.out⟩
              case round =>
                clear H5
                obtain ⟨q, rfl, hq, hP⟩ := hrel
                have HP := Lib.hid hP
                clear hP
                by_cases hq4 : q < 4
                · have d1 : decide ((q : Int) + 1 ≤ 4) = true := decide_eq_true (by omega)
                  have hHe := alHeld (sd : Int) ((a : Int) + 1) ((q : Int) + 1) HP.out.1.ai (by have := HP.out.1.A; omega) K0 (sortU_all K0 (by have := HK.out.2; omega)) (fun j _ => by have := (HK.out.1 j).len; omega) (by have := HK.out.2; omega)
                  rw [HI.out.1] at hHe
                  simp only [heldL] at hHe
                  have HHe := Lib.hid hHe
                  clear hHe
                  go_wp2_with fail
                  refine HHe.out.mono ?_
                  rintro _ w6 ⟨v6, rfl, hrow, ai6, f6⟩
                  obtain ⟨A6, c6, rfl⟩ := own_form hrow
                  have h6 := HP.out.1.asked ai6 f6
                  have k6 := HP.out.1.kc f6 HP.out.2
                  have rd6 := rdN_own rfl hrow
                  have hOf := pof_any (h6.pa.it i HI.out.2) ((q : Int) + 1) (HK.out.1 i).nd (fun x hx => by have := (HK.out.1 i).M x hx; have := (HK.out.1 i).nx; omega) (by have := (HK.out.1 i).len; have := HK.out.2; omega)
                  have HOf := Lib.hid hOf
                  have hll : (hbs ((q : Int) + 1) (s i).M).length ≤ 1000000 := by
                    rw [(hbs_perm _ (s i).M).length_eq]
                    unfold hb
                    rw [List.length_map]
                    exact Nat.le_trans (List.length_filter_le _ _) (by have := (HK.out.1 i).len; have := HK.out.2; omega)
                  have H6 := Lib.hid (And.intro h6 (And.intro k6 (And.intro rd6 hll)))
                  clear hrow ai6 f6 h6 k6 rd6 hOf hll HHe HP d1
                  obtain ⟨m6, hm6⟩ : ∃ m, m = (hbs ((q : Int) + 1) (s i).M).length := ⟨_, rfl⟩
                  rw [← hm6]
                  have HM6 := Lib.hid hm6
                  clear hm6
                  go_wp2_with fail
                  refine HOf.out.mono ?_
                  rintro _ w7 ⟨A7, c7, rfl, rd7, -, b7⟩
                  have rd6 := H6.out.2.2.1.below b7
                  have hll := H6.out.2.2.2
                  rw [← HM6.out] at rd6 rd7 hll ⊢
                  have HSm := Lib.hid (psame_yes A6 A7 m6 c6 c7 _ w7 rd6 rd7 hll)
                  have H7 := Lib.hid (And.intro (H6.out.1.below b7) (Cb.below H6.out.2.1 b7))
                  clear rd6 rd7 hll b7 H6 HOf HM6
                  go_wp2_with fail
                  refine HSm.out.mono ?_
                  rintro _ w8 ⟨rfl, b8⟩
                  have H8 := Lib.hid (And.intro (H7.out.1.below b8) (Cb.below H7.out.2 b8))
                  clear b8 H7 HSm
                  go_wp2
                  go_roundw
                  case rel => exact ⟨q + 1, by go_num, by omega, H8.out⟩
                  case measure => simp [intOf]; omega
                · obtain rfl : q = 4 := by omega
                  go_wp2_with fail
                  go_roundw
                  case rel => exact ⟨a + 1, by go_num, haA, HP.out⟩
                  case measure => simp [intOf]; omega
        · obtain rfl : A = a := by omega
          have d1 : decide ((A : Int) + 1 ≤ (A : Int)) = false := decide_eq_false (by omega)
          go_wp2_with fail
          go_roundw
          case rel => exact ⟨sd + 1, by go_num, by omega, HP.out⟩
          case measure => simp [intOf]; omega
    · obtain rfl : sd = 2 := by omega
      have HE := Lib.hid HP.out.1.bel
      go_wp2
      go_ret
      exact ⟨rfl, HE.out⟩
end
end Go.Proofs.YtpkkomifenlkaaaGreat.Au
