/- 'PoolOwn': the law. -/
import Derived.Test.YtjjomlideieofaaAppendRd
import Derived.Test.YtjjomlideieofaaPoolAwake
import Derived.Test.YtjjomlideieofaaTxRightRef
namespace Go.Proofs.Ytjjomlideieofaa.Msg
open Go Go.RowKit

theorem box_cells {w w' : World} {q : T4} (hb : Below (w.heap.size + 1) (w.alloc (.cells #[.int .i64 q.side, .int .i64 q.acc, .int .u64 q.n, .slice q.A q.len q.cap] TT)) w') :
    w'.heap[w.heap.size]? = some (.cells #[.int .i64 q.side, .int .i64 q.acc, .int .u64 q.n, .slice q.A q.len q.cap] TT (0, 0)) :=
  (hb.block w.heap.size (by omega)).trans (heap_alloc_new w _)

/-- What stands when the one that is to wait is made. -/
structure Mine (C w8 : World) (a g m : Nat) (q : T4) (A : Option Addr) (c : Nat) : Prop where
  pl : Pl C g g 0 4 []
  own : C.ownsRow (m + 1) TM 7 (.slice A q.len c) q.len (mevs q.ms)
  bel : Below w8.heap.size w8 C
  box : C.heap[a]? = some (.cells #[.int .i64 q.side, .int .i64 q.acc, .int .u64 q.n, .slice q.A q.len q.cap] TT (0, 0))
  mine : C.heap[m]? = some (.cells #[.int .i64 q.side, .int .i64 q.acc, .int .u64 q.n, .slice A q.len c] TT (0, 0))

theorem mine_store {C w8 w9 : World} {a g : Nat} {q : T4} {A : Option Addr} {c : Nat} (_ : q.ms.length = q.len) (hp : Pl w8 g g 0 4 []) (hg : g < w8.heap.size) (ha : a < w8.heap.size)
    (ho : w9.ownsRow (w8.heap.size + 1) TM 7 (.slice A q.len c) q.len (mevs q.ms)) (hb : Below w8.heap.size w8 w9)
    (j0 : w9.heap[a]? = some (.cells #[.int .i64 q.side, .int .i64 q.acc, .int .u64 q.n, .slice q.A q.len q.cap] TT (0, 0)))
    (j1 : w9.heap[w8.heap.size]? = some (.cells #[.int .i64 q.side, .int .i64 q.acc, .int .u64 q.n, .slice q.A q.len q.cap] TT (0, 0)))
    (hC : C = w9.setCell ⟨w8.heap.size, 3, none⟩ (.slice A q.len c)) : Mine C w8 a g w8.heap.size q A c := by
  subst hC
  refine ⟨(hp.below hb).same (Below.heap_setCell _ _ _ _ (by simp; omega)) (KM.set j1 (by decide) _), own_setblk ho j1 (by decide), hb.setCell (p := ⟨w8.heap.size, 3, none⟩) (Nat.le_refl _) _, (Below.heap_setCell _ _ _ _ (by simp; omega)).trans j0, ?_⟩
  simp [World.setCell, Array.getElem?_modify, j1]

/-- What stands when it waits. -/
structure Sd (W : World) (a g k : Nat) (q : T4) (A' : Option Addr) (c' : Nat) : Prop where
  pl : Pl W g g 0 4 [⟨q.side, q.acc, q.n, A', q.len, c', q.ms⟩]
  own' : W.ownsRow k TM 7 (.slice A' q.len c') q.len (mevs q.ms)
  box : W.heap[a]? = some (.cells #[.int .i64 q.side, .int .i64 q.acc, .int .u64 q.n, .slice q.A q.len q.cap] TT (0, 0))
structure St (W : World) (a g m k : Nat) (q : T4) (A : Option Addr) (c : Nat) (A' : Option Addr) (c' : Nat) : Prop where
  pl : Pl W g g 0 4 [⟨q.side, q.acc, q.n, A', q.len, c', q.ms⟩]
  own' : W.ownsRow k TM 7 (.slice A' q.len c') q.len (mevs q.ms)
  own : W.ownsRow (m + 1) TM 7 (.slice A q.len c) q.len (mevs q.ms)
  box : W.heap[a]? = some (.cells #[.int .i64 q.side, .int .i64 q.acc, .int .u64 q.n, .slice q.A q.len q.cap] TT (0, 0))
  mine : W.heap[m]? = some (.cells #[.int .i64 q.side, .int .i64 q.acc, .int .u64 q.n, .slice A q.len c] TT (0, 0))
theorem St.below {W W' : World} {a g m k : Nat} {q : T4} {A A' : Option Addr} {c c' : Nat} (h : St W a g m k q A c A' c') (hb : Below W.heap.size W W') : St W' a g m k q A c A' c' :=
  ⟨h.pl.below hb, own_below h.own' hb, own_below h.own hb, (hb.block _ (lt_blk h.box)).trans h.box, (hb.block _ (lt_blk h.mine)).trans h.mine⟩
theorem Sd.below {W W' : World} {a g k : Nat} {q : T4} {A' : Option Addr} {c' : Nat} (h : Sd W a g k q A' c') (hb : Below W.heap.size W W') : Sd W' a g k q A' c' :=
  ⟨h.pl.below hb, own_below h.own' hb, (hb.block _ (lt_blk h.box)).trans h.box⟩
theorem St.sd {W : World} {a g m k : Nat} {q : T4} {A A' : Option Addr} {c c' : Nat} (h : St W a g m k q A c A' c') : Sd W a g k q A' c' := ⟨h.pl, h.own', h.box⟩

/-- A store into a block of messages that is not the pool's. -/
theorem own_setfar {W : World} {base n b i : Nat} {v u : Value} {xs : List Value} (h : W.ownsRow base TM 7 v n xs) (hne : ∀ j, v.ownBlock = some j → j ≠ b) : (W.setCell ⟨b, i, none⟩ u).ownsRow base TM 7 v n xs := by
  refine ⟨h.1, ?_⟩
  rcases h.2 with h2 | ⟨g, cap, cur, hv, hg, hh, r⟩
  · exact .inl h2
  · exact .inr ⟨g, cap, cur, hv, hg, (Below.heap_setCell _ _ _ _ (hne g (by rw [hv]; rfl))).trans hh, r⟩
theorem Sd.put {W : World} {a g k b : Nat} {q : T4} {A' : Option Addr} {c' : Nat} {cs : Array Value} (h : Sd W a g k q A' c') (hb : W.heap[b]? = some (.cells cs TM (0, 0))) (hne : ∀ j, (Value.slice A' q.len c').ownBlock = some j → j ≠ b) (u : Value) : Sd (W.setCell ⟨b, 0, none⟩ u) a g k q A' c' := by
  have hd : ∀ (j : Nat) (T : Nat) (cs' : Array Value), T ≠ TM → W.heap[j]? = some (.cells cs' T (0, 0)) → j ≠ b := fun j T cs' hT hj e => by
    subst e
    rw [hb] at hj
    injection hj with hj
    injection hj with _ ht
    exact hT ht.symm
  obtain ⟨p0, p1, p2, ⟨cp, hcp, pr⟩, p4⟩ := h.pl
  refine ⟨⟨p0, p1, p2, ⟨cp, (Below.heap_setCell _ _ _ _ (hd g TP cp (by decide) hcp)).trans hcp, pr⟩, fun t ht => ?_⟩, own_setfar h.own' hne, (Below.heap_setCell _ _ _ _ (hd a TT _ (by decide) h.box)).trans h.box⟩
  have := p4 t ht
  simp at ht
  subst ht
  exact own_setfar this hne
theorem St.put {W : World} {a g m k b : Nat} {q : T4} {A A' : Option Addr} {c c' : Nat} {cs : Array Value} (h : St W a g m k q A c A' c') (hb : W.heap[b]? = some (.cells cs TM (0, 0))) (hbk : b < k) (u : Value) : Sd (W.setCell ⟨b, 0, none⟩ u) a g k q A' c' :=
  h.sd.put hb (fun j hj e => by have := own_ge h.own' j hj; omega) u
theorem St.row {W : World} {a g m k : Nat} {q : T4} {A A' : Option Addr} {c c' : Nat} (h : St W a g m k q A c A' c') (hl : 0 < q.len) :
    ∃ b cur, A = some ⟨b, 0, none⟩ ∧ m + 1 ≤ b ∧ W.heap[b]? = some (.cells cur TM (0, 0)) ∧ q.len ≤ c ∧ ∃ z, W.cell? ⟨b, 0, none⟩ = some z := by
  rcases h.own.2 with ⟨_, h0⟩ | ⟨b, cap, cur, hv, hg, hh, hc, _, hsz, _⟩
  · omega
  · injection hv with hA _ hcc
    subst hA hcc
    refine ⟨b, cur, rfl, hg, hh, hc, ?_⟩
    have hp : 0 < cur.size := by omega
    exact ⟨cur[0], (cell_of_row _ _ _ _ _ _ hh).trans (Array.getElem?_eq_getElem hp)⟩

/-- A row of one transaction. -/
theorem row1 {w : World} {base c : Nat} {A : Option Addr} {p : T4} (h : w.ownsRow base TT 4 (.slice A 1 c) 1 (tcells [p])) : ∃ r cur, A = some ⟨r, 0, none⟩ ∧ base ≤ r ∧ w.heap[r]? = some (.cells cur TT (0, 0)) ∧ 1 ≤ c ∧ (w.cell? ⟨r, 0, none⟩ = some (.int .i64 p.side) ∧ w.cell? ⟨r, 1, none⟩ = some (.int .i64 p.acc) ∧ w.cell? ⟨r, 2, none⟩ = some (.int .u64 p.n) ∧ w.cell? ⟨r, 3, none⟩ = some (.slice p.A p.len p.cap)) := by
  rcases h.2 with ⟨_, h0⟩ | ⟨g, cap, cur, hv, hg, hh, hc, _, hsz, htk⟩
  · omega
  · injection hv with hA _ hcc
    subst hA hcc
    have e : ∀ j v, j < 4 → (p.cells)[j]? = some v → w.cell? ⟨g, j, none⟩ = some v := fun j v hj hv => by
      rw [cell_of_row w g _ cur _ (0, 0) hh, ← Array.getElem?_toList]
      have h1 : (cur.toList.take (1 * 4))[0 * 4 + j]? = cur.toList[0 * 4 + j]? := List.getElem?_take_of_lt (by omega)
      have h2 : 0 * 4 + j = j := by omega
      rw [h2] at h1
      rw [← h1, htk]
      have := tcells_at [p] 0 j (by simp) hj
      rw [h2] at this
      rw [this]
      exact hv
    exact ⟨g, cur, rfl, hg, hh, hc, e 0 _ (by omega) rfl, e 1 _ (by omega) rfl, e 2 _ (by omega) rfl, e 3 _ (by omega) rfl⟩

theorem own_first {W : World} {base len c : Nat} {A : Option Addr} {ms : List M7} (h : W.ownsRow base TM 7 (.slice A len c) len (mevs ms)) (hl : 0 < len) :
    ∃ b cur, A = some ⟨b, 0, none⟩ ∧ base ≤ b ∧ W.heap[b]? = some (.cells cur TM (0, 0)) ∧ len ≤ c ∧ ∃ z, W.cell? ⟨b, 0, none⟩ = some z := by
  rcases h.2 with ⟨_, h0⟩ | ⟨b, cap, cur, hv, hg, hh, hc, _, hsz, _⟩
  · omega
  · injection hv with hA _ hcc
    subst hA hcc
    refine ⟨b, cur, rfl, hg, hh, hc, ?_⟩
    have hp : 0 < cur.size := by omega
    exact ⟨cur[0], (cell_of_row _ _ _ _ _ _ hh).trans (Array.getElem?_eq_getElem hp)⟩

abbrev SZ (w : World) (r a : Nat) (P q : T4) (W : World) : Prop :=
  (Below w.heap.size w W ∧ r < w.heap.size ∧ a < w.heap.size) ∧ W.cell? ⟨r, 0, none⟩ = some (.int .i64 P.side) ∧ W.cell? ⟨r, 1, none⟩ = some (.int .i64 P.acc) ∧ W.cell? ⟨r, 2, none⟩ = some (.int .u64 P.n) ∧ W.cell? ⟨r, 3, none⟩ = some (.slice P.A P.len P.cap) ∧
  W.cell? ⟨a, 0, none⟩ = some (.int .i64 q.side) ∧ W.cell? ⟨a, 1, none⟩ = some (.int .i64 q.acc) ∧ W.cell? ⟨a, 2, none⟩ = some (.int .u64 q.n) ∧ W.cell? ⟨a, 3, none⟩ = some (.slice q.A q.len q.cap)
theorem SZ.drew {w W : World} {r a : Nat} {P q : T4} (h : SZ w r a P q W) : SZ w r a P q W.drew := ⟨⟨h.1.1.drew, h.1.2⟩, h.2⟩
theorem SZ.call {w W W1 : World} {r a : Nat} {P q : T4} (h : SZ w r a P q W) (hb : Below W.heap.size W W1) : SZ w r a P q W1 := by
  obtain ⟨⟨h0, h1, h2⟩, h3⟩ := h
  have hc : ∀ i, W1.cell? ⟨r, i, none⟩ = W.cell? ⟨r, i, none⟩ := fun i => hb.cell (p := ⟨r, i, none⟩) (Nat.lt_of_lt_of_le h1 h0.size)
  have hc2 : ∀ i, W1.cell? ⟨a, i, none⟩ = W.cell? ⟨a, i, none⟩ := fun i => hb.cell (p := ⟨a, i, none⟩) (Nat.lt_of_lt_of_le h2 h0.size)
  refine ⟨⟨h0.trans (hb.mono h0.size), h1, h2⟩, ?_⟩
  simp only [hc, hc2]
  exact h3

/-- What the last test reads. -/
abbrev SW (B : World) (a g k : Nat) (q : T4) (A' : Option Addr) (c' : Nat) (W : World) : Prop :=
  (Below B.heap.size B W ∧ Sd W a g k q A' c') ∧ W.cell? ⟨a, 0, none⟩ = some (.int .i64 q.side) ∧ W.cell? ⟨a, 1, none⟩ = some (.int .i64 q.acc) ∧ W.cell? ⟨a, 2, none⟩ = some (.int .u64 q.n) ∧ W.cell? ⟨a, 3, none⟩ = some (.slice q.A q.len q.cap)
theorem SW.of {B W : World} {a g k : Nat} {q : T4} {A' : Option Addr} {c' : Nat} (h1 : Below B.heap.size B W) (h2 : Sd W a g k q A' c') : SW B a g k q A' c' W := ⟨⟨h1, h2⟩, tx_cells h2.box⟩
theorem SW.call {B W W1 : World} {a g k : Nat} {q : T4} {A' : Option Addr} {c' : Nat} (h : SW B a g k q A' c' W) (hb : Below W.heap.size W W1) : SW B a g k q A' c' W1 :=
  .of (h.1.1.trans (hb.mono h.1.1.size)) (h.1.2.below hb)
theorem SW.drew {B W : World} {a g k : Nat} {q : T4} {A' : Option Addr} {c' : Nat} (h : SW B a g k q A' c' W) : SW B a g k q A' c' W.drew := h.call (Below.refl _ _).drew
theorem SW.alloc {B W : World} {a g k : Nat} {q : T4} {A' : Option Addr} {c' : Nat} (h : SW B a g k q A' c' W) (o : Obj) : SW B a g k q A' c' (W.alloc o) := h.call ((Below.refl _ _).alloc (Nat.le_refl _) _)
theorem sim_len {p q : T4} {A : Option Addr} {c : Nat} (h : Sim p ⟨q.side, q.acc, q.n, A, q.len, c, q.ms⟩) (hl : q.ms.length = q.len) : p.ms.length = p.len := by
  obtain ⟨_, _, _, h4, h5⟩ := h
  simp only at h4 h5
  rw [h4, h5, hl]
theorem sim_le {p q : T4} {A : Option Addr} {c : Nat} (h : Sim p ⟨q.side, q.acc, q.n, A, q.len, c, q.ms⟩) (hl : q.len ≤ 12) : p.len ≤ 1000000 := by
  obtain ⟨_, _, _, h4, _⟩ := h
  simp only at h4
  omega
theorem sim_one {p q : T4} {A : Option Addr} {c : Nat} (h : Sim p ⟨q.side, q.acc, q.n, A, q.len, c, q.ms⟩) : ∀ i (_ : i < [p].length) (_ : i < [q].length), Sim [p][i] [q][i] := fun i h1 _ => by
  obtain rfl : i = 0 := by simpa using h1
  exact h

theorem rdx_box (W : World) (q : T4) : RdX (W.alloc (.cells #[.int .i64 q.side, .int .i64 q.acc, .int .u64 q.n, .slice q.A q.len q.cap] TT)) (some ⟨W.heap.size, 0, none⟩) 1 [q] := by
  refine ⟨rfl, fun _ => ⟨W.heap.size, 0, rfl, by simp, fun i hi j v hv => ?_⟩⟩
  obtain rfl : i = 0 := by simpa using hi
  rw [cell_of_row _ _ _ _ _ (0, 0) (heap_alloc_new W _)]
  simpa [T4.cells] using hv

set_option maxRecDepth 100000 in
set_option maxHeartbeats 4000000 in
theorem own_law (q : T4) (w : World) (hq : q.ok w) (hqn : q.A = none → q.cap = 0) :
    Calls Try.prog 5 #[.agg #[.int .i64 q.side, .int .i64 q.acc, .int .u64 q.n, .slice q.A q.len q.cap]] w fun e w' => e = .returned (.bool true) ∧ Below w.heap.size w w' := by
  obtain ⟨B, hB⟩ : ∃ B : World, B = w.alloc (.cells #[.int .i64 q.side, .int .i64 q.acc, .int .u64 q.n, .slice q.A q.len q.cap] TT) := ⟨_, rfl⟩
  have hBs : B.heap.size = w.heap.size + 1 := by rw [hB]; simp
  have hwB : Below w.heap.size w B := by rw [hB]; exact (Below.refl _ _).alloc (Nat.le_refl _) _
  have HQ := Lib.hid (show Rd B q.A q.len q.ms from hq.2.2.1.below hwB)
  have HW := Lib.hid hwB
  have HB := Lib.hid (show B.heap[w.heap.size]? = some (.cells #[.int .i64 q.side, .int .i64 q.acc, .int .u64 q.n, .slice q.A q.len q.cap] TT (0, 0)) by rw [hB]; exact heap_alloc_new w _)
  have hcm : q.len ≤ 9223372036854775807 := by have := hq.1; have := hq.2.1; unfold maxLen at this; omega
  obtain ⟨x0, x1, x2, x3⟩ := tx_cells HB.out
  go_enter Try.func5, Try.ntmps5
  rw [hB] at x0 x1 x2 x3
  go_wp2_with fail
  rw [← hB]
  clear x0 x1 x2 x3
  refine (few05_any q.side q.acc q.n q.A q.len q.cap q.ms B HQ.out hcm).mono ?_
  rintro e w2 ⟨fb, rfl, hf12, hb2⟩
  cases fb
  · go_wp2_with fail
    refine (awake10_any _).mono ?_
    rintro e w3 ⟨rfl, hb3⟩
    have HB3 := Lib.hid ((HW.out.trans (hb2.mono HW.out.size)).trans (hb3.mono (Nat.le_trans HW.out.size hb2.size)))
    clear hb3 hb2
    go_wp2
    go_ret
    exact ⟨rfl, HB3.out⟩
  · have h12 : q.len ≤ 12 := hf12 rfl
    have H2 := Lib.hid hb2
    have k2 := (hb2.block w.heap.size (by omega)).trans HB.out
    obtain ⟨x0, x1, x2, x3⟩ := tx_cells k2
    clear hb2 k2
    go_wp2_with fail
    refine (npadd q w2).mono ?_
    rintro e w3 ⟨rfl, hb3⟩
    have H3 := Lib.hid (H2.out.trans (hb3.mono H2.out.size))
    clear hb3 x0 x1 x2 x3
    go_wp2_with fail
    refine (nptake 9 w3).mono ?_
    rintro e w4 ⟨rfl, hb4⟩
    have H4 := Lib.hid (H3.out.trans (hb4.mono H3.out.size))
    clear hb4
    go_wp2_with fail
    refine (nplen w4).mono ?_
    rintro e w4' ⟨rfl, hw4⟩
    obtain rfl := hw4.symm
    have k4 := (H4.out.block w.heap.size (by omega)).trans HB.out
    obtain ⟨x0, x1, x2, x3⟩ := tx_cells k4
    clear k4
    go_wp2_with fail
    refine (npwaiting q.acc w4).mono ?_
    rintro e w5 ⟨rfl, hb5⟩
    have H5 := Lib.hid (H4.out.trans (hb5.mono H4.out.size))
    clear hb5 x0 x1 x2 x3
    go_wp2_with fail
    refine (nphas ⟨0, 0, 0, 0, 0, .empty, .empty⟩ w5).mono ?_
    rintro e w6 ⟨rfl, hb6⟩
    have H6 := Lib.hid (H5.out.trans (hb6.mono H5.out.size))
    clear hb6
    go_wp2_with fail
    refine (npall w6).mono ?_
    rintro e w7 ⟨rfl, hb7⟩
    have H7 := Lib.hid (H6.out.trans (hb7.mono H6.out.size))
    clear hb7
    go_wp2_with fail
    refine (pnew_ok 4 w7 (by decide) (by decide)).mono ?_
    rintro e w8 ⟨rfl, hw8⟩
    have HP0 := Lib.hid (show Pl w8 w7.heap.size w7.heap.size 0 4 [] by rw [hw8]; exact Pl.new w7 _ (Nat.le_refl _) 4)
    have h78 : w7.heap.size < w8.heap.size := by rw [hw8]; simp
    have H8 := Lib.hid (show Below B.heap.size B w8 by rw [hw8]; exact H7.out.alloc H7.out.size _)
    have k8 := (H8.out.block w.heap.size (by omega)).trans HB.out
    obtain ⟨x0, x1, x2, x3⟩ := tx_cells k8
    clear hw8
    have hw8s : w.heap.size < w8.heap.size := lt_blk k8
    have hbE : Below w8.heap.size w8 ((w8.alloc (.cells #[.int .i64 q.side, .int .i64 q.acc, .int .u64 q.n, .slice q.A q.len q.cap] 40)).alloc (.cells #[] 27)) := ((Below.refl _ _).alloc (Nat.le_refl _) _).alloc (by simp) _
    have y3 : ((w8.alloc (.cells #[.int .i64 q.side, .int .i64 q.acc, .int .u64 q.n, .slice q.A q.len q.cap] 40)).alloc (.cells #[] 27)).cell? ⟨w.heap.size, 3, none⟩ = some (.slice q.A q.len q.cap) := (hbE.cell (p := ⟨w.heap.size, 3, none⟩) hw8s).trans x3
    have hownE : ((w8.alloc (.cells #[.int .i64 q.side, .int .i64 q.acc, .int .u64 q.n, .slice q.A q.len q.cap] 40)).alloc (.cells #[] 27)).ownsRow (w8.heap.size + 1) TM 7 (.slice (some ⟨w8.heap.size + 1, 0, none⟩) 0 0) 0 [] :=
      ⟨rfl, Or.inr ⟨w8.heap.size + 1, 0, #[], rfl, Nat.le_refl _, by have := heap_alloc_new (w8.alloc (.cells #[.int .i64 q.side, .int .i64 q.acc, .int .u64 q.n, .slice q.A q.len q.cap] 40)) (.cells #[] 27); rwa [World.size_alloc] at this, Nat.le_refl _, by decide, rfl, rfl⟩⟩
    have kM : ((w8.alloc (.cells #[.int .i64 q.side, .int .i64 q.acc, .int .u64 q.n, .slice q.A q.len q.cap] 40)).alloc (.cells #[] 27)).heap[w8.heap.size]? = some (.cells #[.int .i64 q.side, .int .i64 q.acc, .int .u64 q.n, .slice q.A q.len q.cap] TT (0, 0)) := (Below.heap_alloc _ _ _ (by simp)).trans (heap_alloc_new w8 _)
    have HE := Lib.hid (And.intro hbE (And.intro hownE (And.intro kM k8)))
    clear hbE hownE kM k8
    go_wp2_with (at_builtin; refine wpList_append_rd rfl _ _ rfl (w8.heap.size + 1) _ 0 [] rfl HE.out.2.1 q.A q.len q.cap q.ms rfl (HQ.out.below (H8.out.trans (HE.out.1.mono H8.out.size))) hqn (by omega) (by simp) ?_)
    intro v1 w9 hown9 hg9
    clear x0 x1 x2 x3 y3
    have j0 := (hg9.block w.heap.size (by simp; omega) (fun e => by simp [Value.ownBlock] at e; omega)).trans ((HE.out.1.block w.heap.size hw8s).trans HE.out.2.2.2)
    have j1 := (hg9.block w8.heap.size (by simp; omega) (fun e => by simp [Value.ownBlock] at e)).trans HE.out.2.2.1
    have hb9 : Below w8.heap.size w8 w9 := HE.out.1.grown hg9 (by simp; omega) (fun k hk => by have := own_ge HE.out.2.1 k hk; omega)
    obtain ⟨Am, cm, hv1⟩ := own_formN hown9
    subst hv1
    have H9 := Lib.hid (And.intro hown9 (And.intro hb9 (And.intro j0 j1)))
    obtain ⟨x0, x1, x2, x3⟩ := tx_cells j0
    obtain ⟨y0, y1, y2, y3⟩ := tx_cells j1
    have g3 := tx_free j1 3
    clear hown9 hg9 hb9 j0 j1
    obtain ⟨C, hC⟩ : ∃ C : World, C = w9.setCell ⟨w8.heap.size, 3, none⟩ (.slice Am q.len cm) := ⟨_, rfl⟩
    have HC := Lib.hid (mine_store HQ.out.1 HP0.out h78 hw8s H9.out.1 H9.out.2.1 H9.out.2.2.1 H9.out.2.2.2 hC)
    go_wp2_with fail
    rw [← hC]
    clear x0 x1 x2 x3 y0 y1 y2 y3 g3 hC
    cases hrt : txright q.side q.acc q.ms with
    | false =>
      refine (padd_bad (g := w7.heap.size) ⟨q.side, q.acc, q.n, Am, q.len, cm, q.ms⟩ (row_at HC.out.own HQ.out.1) (by show q.len ≤ _; omega) hrt).mono ?_
      rintro e wa ⟨rfl, hba⟩
      have HA := Lib.hid hba
      have ka := (hba.block w.heap.size (lt_blk HC.out.box)).trans HC.out.box
      obtain ⟨x0, x1, x2, x3⟩ := tx_cells ka
      have HBA := Lib.hid (show Below B.heap.size B wa from H8.out.trans ((HC.out.bel.trans (hba.mono HC.out.bel.size)).mono H8.out.size))
      clear hba ka
      go_wp2_with fail
      refine (rtxright_any q.side q.acc q.n q.A q.len q.cap q.ms wa (HQ.out.below HBA.out) hcm).mono ?_
      rintro e wb ⟨rfl, hbb⟩
      rw [hrt]
      have HPb := Lib.hid ((HC.out.pl.below HA.out).below hbb)
      have HBB := Lib.hid (HBA.out.trans (hbb.mono HBA.out.size))
      clear hbb x0 x1 x2 x3
      go_wp2_with fail
      refine (awake10_any _).mono ?_
      rintro e wc ⟨rfl, hbc⟩
      have HPc := Lib.hid (HPb.out.below hbc)
      have HBC := Lib.hid (HBB.out.trans (hbc.mono HBB.out.size))
      clear hbc
      go_wp2_with fail
      refine (plen_any HPc.out).mono ?_
      rintro e wd ⟨rfl, hwd⟩
      obtain rfl := hwd.symm
      go_wp2
      go_ret
      exact ⟨rfl, HW.out.trans (HBC.out.mono HW.out.size)⟩
    | true =>
      have hCs : w8.heap.size + 1 ≤ C.heap.size := by have := lt_blk HC.out.mine; omega
      refine (padd_own HC.out.pl ⟨q.side, q.acc, q.n, Am, q.len, cm, q.ms⟩ (row_at HC.out.own HQ.out.1) (by show q.len ≤ _; omega) hrt (by simp) (by decide)).mono ?_
      rintro e wa ⟨rfl, A', c', hpl, hkm, hon, hbel, hown'⟩
      have HS := Lib.hid (show St wa w.heap.size w7.heap.size w8.heap.size C.heap.size q Am cm A' c' from
        ⟨hpl, hown', own_km HC.out.own hkm, (hon.2 _ (by have := H7.out.size; omega) (lt_blk HC.out.box)).trans HC.out.box, (hon.2 _ (by omega) (lt_blk HC.out.mine)).trans HC.out.mine⟩)
      have HBA := Lib.hid (show Below B.heap.size B wa from (H8.out.trans (HC.out.bel.mono H8.out.size)).trans (hbel.mono H7.out.size))
      have hAmC : ∀ k, (Value.slice Am q.len cm).ownBlock = some k → k < C.heap.size := fun k hk => (HC.out.own.lt k hk).2
      obtain ⟨x0, x1, x2, x3⟩ := tx_cells HS.out.box
      clear hpl hkm hon hbel hown'
      go_wp2_with fail
      refine (rtxright_any q.side q.acc q.n q.A q.len q.cap q.ms wa (HQ.out.below HBA.out) hcm).mono ?_
      rintro e wb ⟨rfl, hbb⟩
      rw [hrt]
      have HSb := Lib.hid (HS.out.below hbb)
      have HBB := Lib.hid (HBA.out.trans (hbb.mono HBA.out.size))
      obtain ⟨y0, y1, y2, y3⟩ := tx_cells HSb.out.mine
      clear hbb x0 x1 x2 x3
      by_cases hlen : 0 < q.len
      · obtain ⟨b, cur, hAm, hbm, hbb, hbc, hcs⟩ := HSb.out.row hlen
        have hbC := hAmC b (by rw [hAm]; rfl)
        subst hAm
        obtain ⟨z, z0⟩ := hcs
        have hz : wb.frozen? ⟨b, 0, none⟩ = false := by simp [World.frozen?, hbb]
        have hl0 : (0 : Int) < (q.len : Int) := by omega
        obtain ⟨D, hD⟩ : ∃ D : World, D = wb.setCell ⟨b, 0, none⟩ (.int .i64 77) := ⟨_, rfl⟩
        have HD := Lib.hid (HSb.out.put hbb hbC (.int .i64 77))
        rw [← hD] at HD
        have HBD := Lib.hid (show Below B.heap.size B D by rw [hD]; exact HBB.out.setCell (p := ⟨b, 0, none⟩) (by have := H8.out.size; simp; omega) _)
        go_wp2_with fail
        rw [← hD]
        clear hD y0 y1 y2 y3 z0 hz
        refine (pall_any HD.out.pl (fun t ht => by simp at ht; subst ht; exact ⟨by show q.len ≤ 1000; omega, HQ.out.1⟩)).mono ?_
        rintro e wl ⟨u, ps, rfl, hpl, hcp⟩
        obtain ⟨p, hps⟩ : ∃ p, ps = [p] := List.length_eq_one_iff.1 hpl
        subst hps
        obtain ⟨Al, cl, hu⟩ := own_formN hcp.row
        subst hu
        obtain ⟨r, curr, hAl, hrD, hrb, hcl, r0, r1, r2, r3⟩ := row1 hcp.row
        have hpo := hcp.own p (by simp)
        have hsim := hcp.sim 0 (by simp) (by simp)
        have HSl := Lib.hid (HD.out.below hcp.bel)
        have HBl := Lib.hid (HBD.out.trans (hcp.bel.mono HBD.out.size))
        have hDl := hcp.bel.size
        subst hAl
        clear hcp hpl
        obtain ⟨p1, p2, p3, pA, pl, pc, pm⟩ := p
        obtain ⟨e1, e2, e3, e4, e5⟩ : p1 = q.side ∧ p2 = q.acc ∧ p3 = q.n ∧ pl = q.len ∧ pm = q.ms := hsim
        subst e1 e2 e3 e4 e5
        obtain ⟨x0, x1, x2, x3⟩ := tx_cells HSl.out.box
        have hrl := lt_blk hrb
        have hal := lt_blk HSl.out.box
        have HPO := Lib.hid (And.intro hpo (And.intro hrb hrD))
        have hSZ : SZ wl r w.heap.size ⟨q.side, q.acc, q.n, pA, q.len, pc, q.ms⟩ q wl := ⟨⟨Below.refl _ _, hrl, hal⟩, r0, r1, r2, r3, x0, x1, x2, x3⟩
        have HRP := Lib.hid (And.intro (row_at hpo HQ.out.1) (HQ.out.below HBl.out))
        clear hpo hrb hrD r0 r1 r2 r3 x0 x1 x2 x3
        go_wp2
        go_region_held3 (fun W => (Below wl.heap.size wl W ∧ r < wl.heap.size ∧ w.heap.size < wl.heap.size) ∧ W.cell? ⟨r, 0, none⟩ = some (.int .i64 q.side) ∧ W.cell? ⟨r, 1, none⟩ = some (.int .i64 q.acc) ∧ W.cell? ⟨r, 2, none⟩ = some (.int .u64 q.n) ∧ W.cell? ⟨r, 3, none⟩ = some (.slice pA q.len pc) ∧
            W.cell? ⟨w.heap.size, 0, none⟩ = some (.int .i64 q.side) ∧ W.cell? ⟨w.heap.size, 1, none⟩ = some (.int .i64 q.acc) ∧ W.cell? ⟨w.heap.size, 2, none⟩ = some (.int .u64 q.n) ∧ W.cell? ⟨w.heap.size, 3, none⟩ = some (.slice q.A q.len q.cap))
          (first | assumption | exact hSZ | exact SZ.drew hSZ | exact SZ.call (SZ.drew hSZ) hb9 | exact SZ.call hSZ hb9)
          (first | (go_at_call 24; ((with_reducible refine (same_tx q.side q.acc q.n pA q.A q.len pc q.cap q.ms _ (HRP.out.1.below (And.left (And.left (by assumption)))) (HRP.out.2.below (And.left (And.left (by assumption)))) hcm).mono ?_); rintro e w9 ⟨rfl, hb9⟩)))
        obtain ⟨⟨hBF, _⟩, _⟩ : (Below wl.heap.size wl w9 ∧ r < wl.heap.size ∧ w.heap.size < wl.heap.size) ∧ _ := by assumption
        have HS9 := Lib.hid (HSl.out.below hBF)
        have HB9 := Lib.hid (HBl.out.trans (hBF.mono HBl.out.size))
        obtain ⟨b2, cur2, hpA, hb2D, hb2b, _, z2, hz2⟩ := own_first (own_below HPO.out.1 hBF) hlen
        subst hpA
        have hf2 : w9.frozen? ⟨b2, 0, none⟩ = false := by simp [World.frozen?, hb2b]
        have hA'D : ∀ k, (Value.slice A' q.len c').ownBlock = some k → k < D.heap.size := fun k hk => (HD.out.own'.lt k hk).2
        obtain ⟨E, hE⟩ : ∃ E : World, E = w9.setCell ⟨b2, 0, none⟩ (.int .i64 78) := ⟨_, rfl⟩
        have HE2 := Lib.hid (HS9.out.put hb2b (fun j hj e => by have := hA'D j hj; omega) (.int .i64 78))
        rw [← hE] at HE2
        have HBE := Lib.hid (show Below B.heap.size B E by rw [hE]; exact HB9.out.setCell (p := ⟨b2, 0, none⟩) (by have := HBD.out.size; simp; omega) _)
        clear hBF hb2b
        go_wp2_with fail
        rw [← hE]
        clear hE
        have hSW : SW B w.heap.size w7.heap.size C.heap.size q A' c' E := SW.of HBE.out HE2.out
        have hPM : ∀ t ∈ [(⟨q.side, q.acc, q.n, A', q.len, c', q.ms⟩ : T4)], t.len ≤ 1000 ∧ t.ms.length = t.len := fun t ht => by simp at ht; subst ht; exact ⟨by show q.len ≤ 1000; omega, HQ.out.1⟩
        go_region_held3 (fun W => (Below B.heap.size B W ∧ Sd W w.heap.size w7.heap.size C.heap.size q A' c') ∧ W.cell? ⟨w.heap.size, 0, none⟩ = some (.int .i64 q.side) ∧ W.cell? ⟨w.heap.size, 1, none⟩ = some (.int .i64 q.acc) ∧ W.cell? ⟨w.heap.size, 2, none⟩ = some (.int .u64 q.n) ∧ W.cell? ⟨w.heap.size, 3, none⟩ = some (.slice q.A q.len q.cap))
          (with_reducible first | assumption | exact SW.drew hSW | exact SW.alloc hSA _ | exact SW.alloc hSL _)
          (first
            | (go_at_call 9; ((with_reducible refine (awake10_any _).mono ?_); rintro e wA ⟨rfl, hbA⟩; have hSA : SW B w.heap.size w7.heap.size C.heap.size q A' c' wA := (by first | exact SW.call (SW.drew hSW) hbA | exact SW.call hSW hbA)))
            | (go_at_call 20; ((with_reducible refine (pall_any (by first | exact Sd.pl (And.right (And.left hSA)) | exact Sd.pl (And.right (And.left (SW.alloc hSA _)))) hPM).mono ?_); rintro e wL ⟨u2, ps2, rfl, hpl2, hcp2⟩; (obtain ⟨p2, hps2⟩ : ∃ p, ps2 = [p] := List.length_eq_one_iff.1 hpl2); subst hps2; obtain ⟨Al2, cl2, hu2⟩ := own_formN hcp2.row; subst hu2; have hbL := hcp2.bel; have hSL : SW B w.heap.size w7.heap.size C.heap.size q A' c' wL := (by first | exact SW.call hSA hbL | exact SW.call (SW.alloc hSA _) hbL); have hX2 : RdX wL Al2 1 [p2] := rowX hcp2.row rfl; have hO2 : Rd wL p2.A p2.len p2.ms := row_at (hcp2.own p2 (by simp)) (sim_len (p := p2) (q := q) (hcp2.sim 0 (by simp) (by simp)) HQ.out.1); have hS2 := sim_one (p := p2) (q := q) (hcp2.sim 0 (by simp) (by simp)); have hL2 := sim_le (p := p2) (q := q) (hcp2.sim 0 (by simp) (by simp)) h12))
            | (go_at_call 14; ((with_reducible refine (sameall_any Al2 _ 1 cl2 1 [p2] [q] _ (by first | exact hX2 | exact hX2.below ((Below.refl _ _).alloc (Nat.le_refl _) _)) (by first | exact rdx_box _ _ | exact (rdx_box _ _).below hbL) (by decide) hS2 (fun p hp => by obtain rfl : p = p2 := (by simpa using hp); first | exact ⟨hO2, hL2⟩ | exact ⟨hO2.below ((Below.refl _ _).alloc (Nat.le_refl _) _), hL2⟩) (fun p hp => by obtain rfl : p = q := (by simpa using hp); first | exact HQ.out.below (And.left (And.left hSL)) | exact HQ.out.below (And.left (And.left (SW.alloc hSL _))))).mono ?_); rintro e wS ⟨rfl, hbS⟩; have hSS : SW B w.heap.size w7.heap.size C.heap.size q A' c' wS := (by first | exact SW.call hSL hbS | exact SW.call (SW.alloc hSL _) hbS))))
        all_goals (
          obtain ⟨⟨hBZ, _⟩, _⟩ := hSS
          have HBZ := Lib.hid (HW.out.trans (hBZ.mono HW.out.size))
          clear hBZ
          go_wp2
          go_ret
          exact ⟨rfl, HBZ.out⟩)
      · skip
        have hl0 : ¬ (0 : Int) < (q.len : Int) := by omega
        obtain ⟨D, hD⟩ : ∃ D : World, D = wb := ⟨_, rfl⟩
        have HD := Lib.hid (show Sd D w.heap.size w7.heap.size C.heap.size q A' c' by rw [hD]; exact HSb.out.sd)
        have HBD := Lib.hid (show Below B.heap.size B D by rw [hD]; exact HBB.out)
        go_wp2_with fail
        subst hD
        clear y0 y1 y2 y3
        refine (pall_any HD.out.pl (fun t ht => by simp at ht; subst ht; exact ⟨by show q.len ≤ 1000; omega, HQ.out.1⟩)).mono ?_
        rintro e wl ⟨u, ps, rfl, hpl, hcp⟩
        obtain ⟨p, hps⟩ : ∃ p, ps = [p] := List.length_eq_one_iff.1 hpl
        subst hps
        obtain ⟨Al, cl, hu⟩ := own_formN hcp.row
        subst hu
        obtain ⟨r, curr, hAl, hrD, hrb, hcl, r0, r1, r2, r3⟩ := row1 hcp.row
        have hpo := hcp.own p (by simp)
        have hsim := hcp.sim 0 (by simp) (by simp)
        have HSl := Lib.hid (HD.out.below hcp.bel)
        have HBl := Lib.hid (HBD.out.trans (hcp.bel.mono HBD.out.size))
        have hDl := hcp.bel.size
        subst hAl
        clear hcp hpl
        obtain ⟨p1, p2, p3, pA, pl, pc, pm⟩ := p
        obtain ⟨e1, e2, e3, e4, e5⟩ : p1 = q.side ∧ p2 = q.acc ∧ p3 = q.n ∧ pl = q.len ∧ pm = q.ms := hsim
        subst e1 e2 e3 e4 e5
        obtain ⟨x0, x1, x2, x3⟩ := tx_cells HSl.out.box
        have hrl := lt_blk hrb
        have hal := lt_blk HSl.out.box
        have HPO := Lib.hid (And.intro hpo (And.intro hrb hrD))
        have hSZ : SZ wl r w.heap.size ⟨q.side, q.acc, q.n, pA, q.len, pc, q.ms⟩ q wl := ⟨⟨Below.refl _ _, hrl, hal⟩, r0, r1, r2, r3, x0, x1, x2, x3⟩
        have HRP := Lib.hid (And.intro (row_at hpo HQ.out.1) (HQ.out.below HBl.out))
        clear hpo hrb hrD r0 r1 r2 r3 x0 x1 x2 x3
        go_wp2
        go_region_held3 (fun W => (Below wl.heap.size wl W ∧ r < wl.heap.size ∧ w.heap.size < wl.heap.size) ∧ W.cell? ⟨r, 0, none⟩ = some (.int .i64 q.side) ∧ W.cell? ⟨r, 1, none⟩ = some (.int .i64 q.acc) ∧ W.cell? ⟨r, 2, none⟩ = some (.int .u64 q.n) ∧ W.cell? ⟨r, 3, none⟩ = some (.slice pA q.len pc) ∧
            W.cell? ⟨w.heap.size, 0, none⟩ = some (.int .i64 q.side) ∧ W.cell? ⟨w.heap.size, 1, none⟩ = some (.int .i64 q.acc) ∧ W.cell? ⟨w.heap.size, 2, none⟩ = some (.int .u64 q.n) ∧ W.cell? ⟨w.heap.size, 3, none⟩ = some (.slice q.A q.len q.cap))
          (first | assumption | exact hSZ | exact SZ.drew hSZ | exact SZ.call (SZ.drew hSZ) hb9 | exact SZ.call hSZ hb9)
          (first | (go_at_call 24; ((with_reducible refine (same_tx q.side q.acc q.n pA q.A q.len pc q.cap q.ms _ (HRP.out.1.below (And.left (And.left (by assumption)))) (HRP.out.2.below (And.left (And.left (by assumption)))) hcm).mono ?_); rintro e w9 ⟨rfl, hb9⟩)))
        obtain ⟨⟨hBF, _⟩, _⟩ : (Below wl.heap.size wl w9 ∧ r < wl.heap.size ∧ w.heap.size < wl.heap.size) ∧ _ := by assumption
        have HS9 := Lib.hid (HSl.out.below hBF)
        have HB9 := Lib.hid (HBl.out.trans (hBF.mono HBl.out.size))
        obtain ⟨E, hE⟩ : ∃ E : World, E = w9 := ⟨_, rfl⟩
        have HE2 := Lib.hid (show Sd E w.heap.size w7.heap.size C.heap.size q A' c' by rw [hE]; exact HS9.out)
        have HBE := Lib.hid (show Below B.heap.size B E by rw [hE]; exact HB9.out)
        clear hBF
        go_wp2_with fail
        subst hE
        have hSW : SW B w.heap.size w7.heap.size C.heap.size q A' c' E := SW.of HBE.out HE2.out
        have hPM : ∀ t ∈ [(⟨q.side, q.acc, q.n, A', q.len, c', q.ms⟩ : T4)], t.len ≤ 1000 ∧ t.ms.length = t.len := fun t ht => by simp at ht; subst ht; exact ⟨by show q.len ≤ 1000; omega, HQ.out.1⟩
        go_region_held3 (fun W => (Below B.heap.size B W ∧ Sd W w.heap.size w7.heap.size C.heap.size q A' c') ∧ W.cell? ⟨w.heap.size, 0, none⟩ = some (.int .i64 q.side) ∧ W.cell? ⟨w.heap.size, 1, none⟩ = some (.int .i64 q.acc) ∧ W.cell? ⟨w.heap.size, 2, none⟩ = some (.int .u64 q.n) ∧ W.cell? ⟨w.heap.size, 3, none⟩ = some (.slice q.A q.len q.cap))
          (with_reducible first | assumption | exact SW.drew hSW | exact SW.alloc hSA _ | exact SW.alloc hSL _)
          (first
            | (go_at_call 9; ((with_reducible refine (awake10_any _).mono ?_); rintro e wA ⟨rfl, hbA⟩; have hSA : SW B w.heap.size w7.heap.size C.heap.size q A' c' wA := (by first | exact SW.call (SW.drew hSW) hbA | exact SW.call hSW hbA)))
            | (go_at_call 20; ((with_reducible refine (pall_any (by first | exact Sd.pl (And.right (And.left hSA)) | exact Sd.pl (And.right (And.left (SW.alloc hSA _)))) hPM).mono ?_); rintro e wL ⟨u2, ps2, rfl, hpl2, hcp2⟩; (obtain ⟨p2, hps2⟩ : ∃ p, ps2 = [p] := List.length_eq_one_iff.1 hpl2); subst hps2; obtain ⟨Al2, cl2, hu2⟩ := own_formN hcp2.row; subst hu2; have hbL := hcp2.bel; have hSL : SW B w.heap.size w7.heap.size C.heap.size q A' c' wL := (by first | exact SW.call hSA hbL | exact SW.call (SW.alloc hSA _) hbL); have hX2 : RdX wL Al2 1 [p2] := rowX hcp2.row rfl; have hO2 : Rd wL p2.A p2.len p2.ms := row_at (hcp2.own p2 (by simp)) (sim_len (p := p2) (q := q) (hcp2.sim 0 (by simp) (by simp)) HQ.out.1); have hS2 := sim_one (p := p2) (q := q) (hcp2.sim 0 (by simp) (by simp)); have hL2 := sim_le (p := p2) (q := q) (hcp2.sim 0 (by simp) (by simp)) h12))
            | (go_at_call 14; ((with_reducible refine (sameall_any Al2 _ 1 cl2 1 [p2] [q] _ (by first | exact hX2 | exact hX2.below ((Below.refl _ _).alloc (Nat.le_refl _) _)) (by first | exact rdx_box _ _ | exact (rdx_box _ _).below hbL) (by decide) hS2 (fun p hp => by obtain rfl : p = p2 := (by simpa using hp); first | exact ⟨hO2, hL2⟩ | exact ⟨hO2.below ((Below.refl _ _).alloc (Nat.le_refl _) _), hL2⟩) (fun p hp => by obtain rfl : p = q := (by simpa using hp); first | exact HQ.out.below (And.left (And.left hSL)) | exact HQ.out.below (And.left (And.left (SW.alloc hSL _))))).mono ?_); rintro e wS ⟨rfl, hbS⟩; have hSS : SW B w.heap.size w7.heap.size C.heap.size q A' c' wS := (by first | exact SW.call hSL hbS | exact SW.call (SW.alloc hSL _) hbS))))
        all_goals (
          obtain ⟨⟨hBZ, _⟩, _⟩ := hSS
          have HBZ := Lib.hid (HW.out.trans (hBZ.mono HW.out.size))
          clear hBZ
          go_wp2
          go_ret
          exact ⟨rfl, HBZ.out⟩)
end Go.Proofs.Ytjjomlideieofaa.Msg
