import Derived.Deep.AppendLies
import Derived.Below
import Derived.Test.YtpkkomifenlkaaaGreatAlDo
import Derived.Test.YtpkkomifenlkaaaGreatConfC
import Derived.Deep.RegionHeld3
/- append onto a row of the call's own: what it owned ahead it still owns behind (the new slice may lie elsewhere); the form for a step of a region that draws its order. -/
namespace Go.Proofs.YtpkkomifenlkaaaGreat
open Go Go.RowKit
section
variable {P : Program} (w : World)

theorem run_append_keep (t ty : TypeId) (base : Nat) (e : TypeId) (i : TypeInfo) (z : Value) (size bytes : Nat) (ht : P.underlying t = some (.slice e)) (hi : P.info? e = some i) (hz : i.zero = some z)
    (hsize : i.size = size) (hby : i.bytes = bytes) (hzs : z.cells.size = size) (hsz : 0 < size)
    (v : Value) (n : Nat) (xs : List Value) (hown : w.ownsRow base e size v n xs)
    (ad : Addr) (m c : Nat) (news : List Value) (hl : news.length = m * size) (hnews : ∀ j u, news[j]? = some u → w.cell? (ad.add j) = some u) (h1 : ∀ u ∈ news, u.oneCell' = true)
    (hm : 0 < m) (h63 : n + m ≤ maxLen) (hbytes : (n + m) * bytes ≤ 140737488355328) (hbase : base ≤ w.heap.size) (H : Nat) (hH : w.heap.size = H) :
    ∃ g cap w', (Builtin.append_ #[t, t] ty #[v, .slice (some ad) m c]).run P w = .ok (.slice (some ⟨g, 0, none⟩) (n + m) cap) w' ∧
      w'.ownsRow base e size (.slice (some ⟨g, 0, none⟩) (n + m) cap) (n + m) (xs ++ news) ∧ w.grownBy w' v.ownBlock ∧ (v.ownBlock = some g ∨ g = H) ∧ w'.ownsRow base e size v n xs := by
  obtain ⟨g, cap, w', hr, h2, h3, h4, _⟩ := run_append_lies (P := P) w t ty base e i z size bytes ht hi hz hsize hby hzs hsz v n xs hown ad m c news hl hnews h1 hm h63 hbytes hbase H hH
  refine ⟨g, cap, w', hr, h2, h3, h4, ?_⟩
  rcases hown.2 with ⟨rfl, rfl⟩ | ⟨g0, cap0, cur, rfl, hbg, hg, hnc, hcm, hcs, htake⟩
  · exact ⟨hown.1, .inl ⟨rfl, rfl⟩⟩
  · have hx : xs.length = n * size := hown.1
    by_cases hroom : n + m ≤ cap0
    · have hfit : n * i.size + news.length ≤ cur.size := by rw [hl, hcs, hsize, ← Nat.add_mul]; exact Nat.mul_le_mul_right _ hroom
      have hr2 := run_append_room (P := P) w t ty e i ht hi g0 n cap0 cur hg ad m c news (by rw [hsize]; exact hl) hnews h1 hroom hfit
      rw [hr] at hr2
      injection hr2 with _ hw
      subst hw
      refine ⟨hx, .inr ⟨g0, cap0, _, rfl, hbg, setRow_heap w g0 cur _ e _ hg, hnc, hcm, ?_, ?_⟩⟩
      · rw [hsize] at hfit
        simp only [List.size_toArray, List.length_append, List.length_take, List.length_drop, Array.length_toList, hsize]
        omega
      · simp only [hsize]
        rw [List.append_assoc, List.take_append_of_le_length (by rw [List.length_take, Array.length_toList, hcs]; rw [Nat.min_eq_left (Nat.mul_le_mul_right _ hnc)]; exact Nat.le_refl _), List.take_take, Nat.min_self]
        exact htake
    · have holds : ∀ j u, xs[j]? = some u → w.cell? ((⟨g0, 0, none⟩ : Addr).add j) = some u := hown.cells (g := g0) rfl
      have h63' : ((n + m : Nat) : Int) ≤ 9223372036854775807 := by simp only [maxLen] at h63; omega
      have hr2 := run_append_grow (P := P) w t ty e i z ht hi hz ⟨g0, 0, none⟩ n cap0 xs (by rw [hsize]; exact hx) holds ad m c news (by rw [hsize]; exact hl) hnews (by omega) h63' (by rw [hby]; exact growslice_fits (by omega) hbytes)
      rw [hr] at hr2
      injection hr2 with _ hw
      subst hw
      exact (World.ownsRow.alloc (w := w.drew) hown _)

/-- At a step of a region that draws its order. -/
theorem step_append_keep {ops : Array Oper} {o : Oper} {a : Act} {K : Act → World → Prop} {Q : Exit → Act → World → Prop} {E : Prop} (hgd : o.guard = none) (s x : Operand) (t : TypeId)
    (ho : o.op = .call { callee := .builtin .append, args := #[s, x], argTypes := #[t, t] })
    (base : Nat) (e : TypeId) (i : TypeInfo) (z : Value) (size bytes : Nat) (ht : P.underlying t = some (.slice e)) (hi : P.info? e = some i) (hz : i.zero = some z)
    (hsize : i.size = size) (hby : i.bytes = bytes) (hzs : z.cells.size = size) (hsz : 0 < size)
    (v : Value) (n : Nat) (xs : List Value) (hs : a.eval s = v) (hown : w.ownsRow base e size v n xs)
    (ad : Addr) (m c : Nat) (news : List Value) (hx : a.eval x = .slice (some ad) m c) (hl : news.length = m * size) (hnews : ∀ j u, news[j]? = some u → w.cell? (ad.add j) = some u) (h1 : ∀ u ∈ news, u.oneCell' = true)
    (hm : 0 < m) (h63 : n + m ≤ maxLen) (hbytes : (n + m) * bytes ≤ 140737488355328) (hbase : base ≤ w.heap.size) (H : Nat) (hH : w.heap.size = H)
    (h : ∀ g cap w', w'.ownsRow base e size (.slice (some ⟨g, 0, none⟩) (n + m) cap) (n + m) (xs ++ news) → w.grownBy w' v.ownBlock → (v.ownBlock = some g ∨ g = H) → w'.ownsRow base e size v n xs → K (a.put o.dst (.slice (some ⟨g, 0, none⟩) (n + m) cap)) w') :
    if Region.wanted o (yielded ops a.tmps) = true then Oper.wp P o a w K Q else E := by
  have hw : Region.wanted o (yielded ops a.tmps) = true := by simp [Region.wanted, hgd]
  rw [if_pos hw]
  obtain ⟨g, cap, w', hr, h2, h3, h4, h5⟩ := run_append_keep (P := P) w t o.type base e i z size bytes ht hi hz hsize hby hzs hsz v n xs hown ad m c news hl hnews h1 hm h63 hbytes hbase H hH
  unfold Oper.wp execOp
  simp only [ho, resolve, invoke, builtin, Sem.run_bind, Sem.run_pure, Result.andThen_ok, List.map_toArray, List.map_cons, List.map_nil, hs, hx, hr]
  exact h g cap w' h2 h3 h4 h5
/-- At the operation. -/
theorem wp_append_keep {o : Oper} {a : Act} {K : Act → World → Prop} {Q : Exit → Act → World → Prop} (s x : Operand) (t : TypeId)
    (ho : o.op = .call { callee := .builtin .append, args := #[s, x], argTypes := #[t, t] })
    (base : Nat) (e : TypeId) (i : TypeInfo) (z : Value) (size bytes : Nat) (ht : P.underlying t = some (.slice e)) (hi : P.info? e = some i) (hz : i.zero = some z)
    (hsize : i.size = size) (hby : i.bytes = bytes) (hzs : z.cells.size = size) (hsz : 0 < size)
    (v : Value) (n : Nat) (xs : List Value) (hs : a.eval s = v) (hown : w.ownsRow base e size v n xs)
    (ad : Addr) (m c : Nat) (news : List Value) (hx : a.eval x = .slice (some ad) m c) (hl : news.length = m * size) (hnews : ∀ j u, news[j]? = some u → w.cell? (ad.add j) = some u) (h1 : ∀ u ∈ news, u.oneCell' = true)
    (hm : 0 < m) (h63 : n + m ≤ maxLen) (hbytes : (n + m) * bytes ≤ 140737488355328) (hbase : base ≤ w.heap.size) (H : Nat) (hH : w.heap.size = H)
    (h : ∀ g cap w', w'.ownsRow base e size (.slice (some ⟨g, 0, none⟩) (n + m) cap) (n + m) (xs ++ news) → w.grownBy w' v.ownBlock → (v.ownBlock = some g ∨ g = H) → w'.ownsRow base e size v n xs → K (a.put o.dst (.slice (some ⟨g, 0, none⟩) (n + m) cap)) w') : o.wp P a w K Q := by
  obtain ⟨g, cap, w', hr, h2, h3, h4, h5⟩ := run_append_keep (P := P) w t o.type base e i z size bytes ht hi hz hsize hby hzs hsz v n xs hown ad m c news hl hnews h1 hm h63 hbytes hbase H hH
  unfold Oper.wp execOp
  simp only [ho, resolve, invoke, builtin, Sem.run_bind, Sem.run_pure, Result.andThen_ok, List.map_toArray, List.map_cons, List.map_nil, hs, hx, hr]
  exact h g cap w' h2 h3 h4 h5
end
end Go.Proofs.YtpkkomifenlkaaaGreat
/- An allocator while it is made. -/
namespace Go.Proofs.YtpkkomifenlkaaaGreat.Au
open Go Go.RowKit Conf
set_option linter.unusedVariables false

abbrev TCf : Nat := 42
theorem kp {V V' : World} {k : Nat} {o : Obj} (b : Below V.heap.size V V') (h : V.heap[k]? = some o) : V'.heap[k]? = some o := (b.block _ (ltO h)).trans h
theorem gnew (W : World) : Calls Tryz.prog 34 #[] W fun e w' => e = .returned (.pointer (some ⟨W.heap.size, 0, none⟩)) ∧ w'.heap[W.heap.size]? = some (.cells #[.slice none 0 0] Gp.THp (0, 0)) ∧ Below W.heap.size W w' := by
  go_enter Tryz.func34, Tryz.ntmps34
  go_wp2
  go_ret
  exact ⟨rfl, heap_alloc_new W _, (Below.refl _ _).alloc (Nat.le_refl _) _⟩
theorem infoP : (Tryz.prog.info? TNp).map (fun i => (i.zero, i.size, i.bytes)) = some (some (.pointer none), 1, 8) := by kernel_rfl
theorem news_p (V : World) (N : Nat) : ∀ j u, [Value.pointer (some ⟨N, 0, none⟩)][j]? = some u → (V.alloc (.cells #[.pointer (some ⟨N, 0, none⟩)] TNp)).cell? ((⟨V.heap.size, 0, none⟩ : Addr).add j) = some u := by
  intro j u h
  have := cell_of_row (V.alloc (.cells #[.pointer (some ⟨N, 0, none⟩)] TNp)) V.heap.size j #[.pointer (some ⟨N, 0, none⟩)] TNp (0, 0) (heap_alloc_new V _)
  match j with
  | 0 => exact this.trans (show some (Value.pointer (some ⟨N, 0, none⟩)) = some u from h)
  | j + 1 => simp at h
theorem ones_p (N : Nat) : ∀ u ∈ [Value.pointer (some ⟨N, 0, none⟩)], u.oneCell' = true := by simp [Value.oneCell']
theorem mk_map (V : World) : Sem.run Tryz.prog (Instr.makeMap 57 none) V = .ok (.map (some V.heap.size)) (V.alloc (.map #[] 0)) := by
  simp [Instr.makeMap, go_sem]
/-- a config's cells -/
abbrev ccells (c : Cfg) : Array Value := #[.slice c.A c.n c.cap, .int .i64 c.f1, .int .i64 c.f2, .int .i64 c.f3, .int .i64 c.f4, .int .i64 c.f5, .int .i64 c.f6, .int .i64 c.f7, .int .i64 c.f8, .int .i64 c.f9, .int .i64 c.f10, .int .u64 c.f11]
def v00 : Nat → Value := fun _ => .slice none 0 0
/-- numbers as they are made -/
def s00 (f : Int) : Nat → Nu := fun _ => ⟨0, f, [], []⟩
structure NW (w V : World) (y : Alo) (n0 n1 : Nat) (c : Cfg) (v0 v1 : Value) : Prop where
  cf : V.heap[w.heap.size]? = some (.cells (ccells c) TCf (0, 0))
  al : AIs (w.heap.size + 1) V y n0 n1 0 v0 v1 v00 (s00 c.f11)
  bel : Below w.heap.size w V
  ap : ∀ k, v0.ownBlock = some k → v1.ownBlock ≠ some k
section
variable {w V V' : World} {y : Alo} {n0 n1 : Nat} {c : Cfg} {v0 v1 : Value}
theorem NW.below (h : NW w V y n0 n1 c v0 v1) (k : Below V.heap.size V V') : NW w V' y n0 n1 c v0 v1 := ⟨kp k h.cf, h.al.below k, h.bel.trans (k.mono h.bel.size), h.ap⟩
theorem NW.a (h : NW w V y n0 n1 c v0 v1) : V.heap[y.S]? = some (.cells #[.int .i32 0, .int .u32 0, v0, v1] TAl (0, 0)) := h.al.box
theorem NW.drew (h : NW w V y n0 n1 c v0 v1) : NW w V.drew y n0 n1 c v0 v1 := ⟨h.cf, h.al.drew, ⟨h.bel.os, h.bel.tape, h.bel.output, h.bel.size, h.bel.block⟩, h.ap⟩
/-- one account's numbers, as they are made -/
structure NumN (V : World) (first : Int) (N H B : Nat) : Prop where
  n : V.heap[N]? = some (.cells #[.int .u64 0, .int .u64 first, .pointer (some ⟨H, 0, none⟩), .map (some B)] TNm (0, 0))
  h : V.heap[H]? = some (.cells #[.slice none 0 0] Gp.THp (0, 0))
  b : V.heap[B]? = some (.map #[] 0)
theorem NumN.below {first : Int} {N H B : Nat} (h : NumN V first N H B) (k : Below V.heap.size V V') : NumN V' first N H B := ⟨kp k h.n, kp k h.h, kp k h.b⟩
theorem NumN.is {first : Int} {N H B base : Nat} (h : NumN V first N H B) (h1 : base ≤ N) (h2 : base ≤ H) (h3 : base ≤ B) : NIs base V ⟨N, H, B⟩ (.slice none 0 0) ⟨0, first, [], []⟩ :=
  ⟨h.n, ⟨h1, h3⟩, ⟨⟨[], ⟨h.h, h2, ⟨rfl, Or.inl ⟨rfl, rfl⟩⟩, by simp⟩, fun k _ h => by simp at h, Gm.Rep.nil⟩, by simp⟩, ⟨[], 0, h.b, rfl, by simp, by simp⟩⟩
/-- the bounds of what stands -/
def Und (y : Alo) (n0 n1 M : Nat) : Prop := ∀ i, Val y.A n0 n1 i → (y.b i).N < M ∧ (y.b i).H < M ∧ (y.b i).B < M
theorem NW.und (h : NW w V y n0 n1 c v0 v1) : Und y n0 n1 V.heap.size := fun i hi => ⟨(h.al.it i hi).lt.1, (h.al.it i hi).lt.2.1, (h.al.it i hi).lt.2.2.1⟩
/-- one more account on the ledger 0 -/
theorem NW.push0 {M N H B g cap : Nat} {x : World} (h : NW w V y n0 0 c v0 v1) (hu : Und y n0 0 M) (hA : n0 < y.A) (hN : NumN V c.f11 N H B) (hM : M ≤ N ∧ M ≤ H ∧ M ≤ B) (hb : w.heap.size + 1 ≤ M) (hv1 : v1 = .slice none 0 0)
    (hown : x.ownsRow (w.heap.size + 1) TNp 1 (.slice (some ⟨g, 0, none⟩) (n0 + 1) cap) (n0 + 1) (ptrs y.b 0 n0 ++ [.pointer (some ⟨N, 0, none⟩)])) (hg : V.grownBy x v0.ownBlock) :
    x.heap[w.heap.size]? = some (.cells (ccells c) TCf (0, 0)) ∧ x.heap[y.S]? = some (.cells #[.int .i32 0, .int .u32 0, v0, v1] TAl (0, 0)) ∧ NW w (x.setCell ⟨y.S, 2, none⟩ (.slice (some ⟨g, 0, none⟩) (n0 + 1) cap)) ⟨y.S, y.A, upd y.b n0 ⟨N, H, B⟩⟩ (n0 + 1) 0 c (.slice (some ⟨g, 0, none⟩) (n0 + 1) cap) v1 := by
  have hlo := h.al.low
  have nr : ∀ {k : Nat} {a : Array Value} {T : TypeId} {f : Nat × Nat}, V.heap[k]? = some (.cells a T f) → T ≠ TNp → x.heap[k]? = some (.cells a T f) := fun hk hT =>
    (hg.block _ (ltO hk) fun e => by
      obtain ⟨cs, fr, q⟩ := own_at h.al.r0 e.symm
      exact cells_ne hk q hT rfl).trans hk
  have nm : ∀ {k : Nat} {es : Array MapEntry} {cl : Nat}, V.heap[k]? = some (.map es cl) → x.heap[k]? = some (.map es cl) := fun hk =>
    (hg.block _ (ltO hk) fun e => by
      obtain ⟨cs, fr, q⟩ := own_at h.al.r0 e.symm
      exact cells_map q hk rfl).trans hk
  have hS := nr h.a (by decide)
  have hC := nr h.cf (by decide)
  have ns : ∀ {k : Nat}, k ≠ y.S → (x.setCell ⟨y.S, 2, none⟩ (.slice (some ⟨g, 0, none⟩) (n0 + 1) cap)).heap[k]? = x.heap[k]? := fun hk => Below.heap_setCell _ _ _ _ hk
  refine ⟨hC, hS, ?_⟩
  have hbel : Below w.heap.size w x := ⟨hg.os.trans h.bel.os, hg.tape.trans h.bel.tape, hg.output.trans h.bel.output, Nat.le_trans h.bel.size hg.size, fun k hk => (hg.block k (Nat.lt_of_lt_of_le hk h.bel.size) fun e => by have := (h.al.r0.lt k e.symm).1; omega).trans (h.bel.block k hk)⟩
  have hNS : N ≠ y.S := cells_ne hN.n h.a (by decide)
  have hHS : H ≠ y.S := cells_ne hN.h h.a (by decide)
  have hBS : B ≠ y.S := (cells_map h.a hN.b).symm
  have hN' : NumN (x.setCell ⟨y.S, 2, none⟩ (.slice (some ⟨g, 0, none⟩) (n0 + 1) cap)) c.f11 N H B := ⟨(ns hNS).trans (nr hN.n (by decide)), (ns hHS).trans (nr hN.h (by decide)), (ns hBS).trans (nm hN.b)⟩
  refine ⟨(ns (k := w.heap.size) (by omega)).trans hC, ⟨?_, hlo, ?_, ?_, hA, fun i hi => ?_, fun i j hi hj hne => ?_⟩, hbel.setCell (p := ⟨y.S, 2, none⟩) (by show w.heap.size ≤ y.S; omega) _, fun k _ => by rw [hv1]; intro e; cases e⟩
  · simp [World.setCell, Array.getElem?_modify, hS]
  · have e1 : ptrs (upd y.b n0 ⟨N, H, B⟩) 0 (n0 + 1) = ptrs y.b 0 n0 ++ [.pointer (some ⟨N, 0, none⟩)] := by
      rw [ptrs_succ, Nat.zero_add, upd_at]
      congr 1
      unfold ptrs
      refine List.map_congr_left fun i hi => ?_
      have := List.mem_range.1 hi
      rw [Nat.zero_add, upd_off (by omega)]
    show World.ownsRow _ _ _ _ _ _ (ptrs (upd y.b n0 ⟨N, H, B⟩) 0 (n0 + 1))
    rw [e1]
    refine own_same hown fun k hk => ns ?_
    obtain ⟨cs, fr, q⟩ := own_at hown hk
    exact cells_ne q hS (by decide)
  · rw [hv1]; exact World.ownsRow_nil _ _ _ _
  · show NIs _ _ (upd y.b n0 ⟨N, H, B⟩ i) _ _
    by_cases e : i = n0
    · rw [e, upd_at]; exact hN'.is (by omega) (by omega) (by omega)
    · rw [upd_off e]
      have hi' : Val y.A n0 0 i := by
        rcases hi with hi | ⟨h1, h2⟩
        · left; omega
        · exfalso
          have h1' : y.A ≤ i := h1
          have h2' : i < y.A + 0 := h2
          omega
      have hi1 := h.al.it i hi'
      have o0 := fun k => h.al.off0 (k := k) hi'
      have oS := h.al.offS hi'
      refine hi1.still ((ns oS.n.symm).trans (hg.block _ hi1.lt.1 fun e => (o0 _ e.symm).n rfl)) ((ns oS.h.symm).trans (hg.block _ hi1.lt.2.1 fun e => (o0 _ e.symm).h rfl)) ((ns oS.b.symm).trans (hg.block _ hi1.lt.2.2.1 fun e => (o0 _ e.symm).b rfl)) fun k hk => by cases hk
  · show Apt (upd y.b n0 ⟨N, H, B⟩ i) _ (upd y.b n0 ⟨N, H, B⟩ j) _
    have val : ∀ i, i ≠ n0 → Val y.A (n0 + 1) 0 i → Val y.A n0 0 i := fun i e hi => by
      rcases hi with hi | ⟨h1, h2⟩
      · left; omega
      · exfalso; omega
    by_cases e : i = n0
    · have e2 : j ≠ n0 := fun q => hne (e.trans q.symm)
      rw [e, upd_at, upd_off e2]
      have := hu j (val j e2 hj)
      exact ⟨by show N ≠ _; omega, by show H ≠ _; omega, by show B ≠ _; omega, fun k hk => by cases hk⟩
    · rw [upd_off e]
      have h1 := hu i (val i e hi)
      by_cases e2 : j = n0
      · rw [e2, upd_at]
        exact ⟨by show _ ≠ N; omega, by show _ ≠ H; omega, by show _ ≠ B; omega, fun k hk => by cases hk⟩
      · rw [upd_off e2]
        exact h.al.ap i j (val i e hi) (val j e2 hj) hne
/-- one more account on the ledger 1 -/
theorem NW.push1 {M N H B g cap Hs : Nat} {x : World} (h : NW w V y y.A n1 c v0 v1) (hu : Und y y.A n1 M) (hN : NumN V c.f11 N H B) (hM : M ≤ N ∧ M ≤ H ∧ M ≤ B) (hb : w.heap.size + 1 ≤ M) (hat : v1.ownBlock = some g ∨ g = V.heap.size)
    (hown : x.ownsRow (w.heap.size + 1) TNp 1 (.slice (some ⟨g, 0, none⟩) (n1 + 1) cap) (n1 + 1) (ptrs y.b y.A n1 ++ [.pointer (some ⟨N, 0, none⟩)])) (hg : V.grownBy x v1.ownBlock) :
    x.heap[w.heap.size]? = some (.cells (ccells c) TCf (0, 0)) ∧ x.heap[y.S]? = some (.cells #[.int .i32 0, .int .u32 0, v0, v1] TAl (0, 0)) ∧ NW w (x.setCell ⟨y.S, 3, none⟩ (.slice (some ⟨g, 0, none⟩) (n1 + 1) cap)) ⟨y.S, y.A, upd y.b (y.A + n1) ⟨N, H, B⟩⟩ y.A (n1 + 1) c v0 (.slice (some ⟨g, 0, none⟩) (n1 + 1) cap) := by
  have hlo := h.al.low
  have nr : ∀ {k : Nat} {a : Array Value} {T : TypeId} {f : Nat × Nat}, V.heap[k]? = some (.cells a T f) → T ≠ TNp → x.heap[k]? = some (.cells a T f) := fun hk hT =>
    (hg.block _ (ltO hk) fun e => by
      obtain ⟨cs, fr, q⟩ := own_at h.al.r1 e.symm
      exact cells_ne hk q hT rfl).trans hk
  have nm : ∀ {k : Nat} {es : Array MapEntry} {cl : Nat}, V.heap[k]? = some (.map es cl) → x.heap[k]? = some (.map es cl) := fun hk =>
    (hg.block _ (ltO hk) fun e => by
      obtain ⟨cs, fr, q⟩ := own_at h.al.r1 e.symm
      exact cells_map q hk rfl).trans hk
  have hS := nr h.a (by decide)
  have hC := nr h.cf (by decide)
  have ns : ∀ {k : Nat}, k ≠ y.S → (x.setCell ⟨y.S, 3, none⟩ (.slice (some ⟨g, 0, none⟩) (n1 + 1) cap)).heap[k]? = x.heap[k]? := fun hk => Below.heap_setCell _ _ _ _ hk
  refine ⟨hC, hS, ?_⟩
  have hbel : Below w.heap.size w x := ⟨hg.os.trans h.bel.os, hg.tape.trans h.bel.tape, hg.output.trans h.bel.output, Nat.le_trans h.bel.size hg.size, fun k hk => (hg.block k (Nat.lt_of_lt_of_le hk h.bel.size) fun e => by have := (h.al.r1.lt k e.symm).1; omega).trans (h.bel.block k hk)⟩
  have hNS : N ≠ y.S := cells_ne hN.n h.a (by decide)
  have hHS : H ≠ y.S := cells_ne hN.h h.a (by decide)
  have hBS : B ≠ y.S := (cells_map h.a hN.b).symm
  have hN' : NumN (x.setCell ⟨y.S, 3, none⟩ (.slice (some ⟨g, 0, none⟩) (n1 + 1) cap)) c.f11 N H B := ⟨(ns hNS).trans (nr hN.n (by decide)), (ns hHS).trans (nr hN.h (by decide)), (ns hBS).trans (nm hN.b)⟩
  have vA : ∀ i, i ≠ y.A + n1 → Val y.A y.A (n1 + 1) i → Val y.A y.A n1 i := fun i e hi => by
    rcases hi with hi | ⟨h1, h2⟩
    · exact Or.inl hi
    · exact Or.inr ⟨h1, by omega⟩
  refine ⟨(ns (k := w.heap.size) (by omega)).trans hC, ⟨?_, hlo, ?_, ?_, Nat.le_refl _, fun i hi => ?_, fun i j hi hj hne => ?_⟩, hbel.setCell (p := ⟨y.S, 3, none⟩) (by show w.heap.size ≤ y.S; omega) _, fun k hk e => ?_⟩
  · simp [World.setCell, Array.getElem?_modify, hS]
  · have e1 : ptrs (upd y.b (y.A + n1) ⟨N, H, B⟩) 0 y.A = ptrs y.b 0 y.A := by
      unfold ptrs
      refine List.map_congr_left fun i hi => ?_
      have := List.mem_range.1 hi
      rw [upd_off (by omega)]
    show World.ownsRow _ _ _ _ _ _ (ptrs (upd y.b (y.A + n1) ⟨N, H, B⟩) 0 y.A)
    rw [e1]
    refine own_same h.al.r0 fun k hk => (ns (h.al.rowS.1 k hk)).trans (hg.block k (h.al.r0.lt k hk).2 fun e => h.ap k hk e.symm)
  · have e1 : ptrs (upd y.b (y.A + n1) ⟨N, H, B⟩) y.A (n1 + 1) = ptrs y.b y.A n1 ++ [.pointer (some ⟨N, 0, none⟩)] := by
      rw [ptrs_succ, upd_at]
      congr 1
      unfold ptrs
      refine List.map_congr_left fun i hi => ?_
      have := List.mem_range.1 hi
      rw [upd_off (by omega)]
    show World.ownsRow _ _ _ _ _ _ (ptrs (upd y.b (y.A + n1) ⟨N, H, B⟩) y.A (n1 + 1))
    rw [e1]
    refine own_same hown fun k hk => ns ?_
    obtain ⟨cs, fr, q⟩ := own_at hown hk
    exact cells_ne q hS (by decide)
  · show NIs _ _ (upd y.b (y.A + n1) ⟨N, H, B⟩ i) _ _
    by_cases e : i = y.A + n1
    · rw [e, upd_at]; exact hN'.is (by omega) (by omega) (by omega)
    · rw [upd_off e]
      have hi' := vA i e hi
      have hi1 := h.al.it i hi'
      have o0 := fun k => h.al.off1 (k := k) hi'
      have oS := h.al.offS hi'
      refine hi1.still ((ns oS.n.symm).trans (hg.block _ hi1.lt.1 fun e => (o0 _ e.symm).n rfl)) ((ns oS.h.symm).trans (hg.block _ hi1.lt.2.1 fun e => (o0 _ e.symm).h rfl)) ((ns oS.b.symm).trans (hg.block _ hi1.lt.2.2.1 fun e => (o0 _ e.symm).b rfl)) fun k hk => by cases hk
  · show Apt (upd y.b (y.A + n1) ⟨N, H, B⟩ i) _ (upd y.b (y.A + n1) ⟨N, H, B⟩ j) _
    by_cases e : i = y.A + n1
    · have e2 : j ≠ y.A + n1 := fun q => hne (e.trans q.symm)
      rw [e, upd_at, upd_off e2]
      have := hu j (vA j e2 hj)
      exact ⟨by show N ≠ _; omega, by show H ≠ _; omega, by show B ≠ _; omega, fun k hk => by cases hk⟩
    · rw [upd_off e]
      have h1 := hu i (vA i e hi)
      by_cases e2 : j = y.A + n1
      · rw [e2, upd_at]
        exact ⟨by show _ ≠ N; omega, by show _ ≠ H; omega, by show _ ≠ B; omega, fun k hk => by cases hk⟩
      · rw [upd_off e2]
        exact h.al.ap i j (vA i e hi) (vA j e2 hj) hne
  · have e' : g = k := by injection e
    rcases hat with q | q
    · exact h.ap k hk (by rw [q, e'])
    · have := (h.al.r0.lt k hk).2
      omega
end
end Go.Proofs.YtpkkomifenlkaaaGreat.Au
