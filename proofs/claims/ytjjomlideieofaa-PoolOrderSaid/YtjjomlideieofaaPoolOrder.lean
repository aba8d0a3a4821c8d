/- 'PoolOrder' holds for every input, with no condition: what was added is taken in the order in which it was, and once. -/
import Derived.Test.YtjjomlideieofaaPoolAwake
namespace Go.Proofs.Ytjjomlideieofaa.poolOrder
open Go Go.RowKit Msg

/-- A slice that reads as numbers. -/
def Ri (w : World) (A : Option Addr) (len : Nat) (zs : List Int) : Prop := 0 < len → ∃ b off, A = some ⟨b, off, none⟩ ∧ b < w.heap.size ∧ ∀ i, i < len → w.cell? ⟨b, off + i, none⟩ = some (.int .i64 (zs.getD i 0))

theorem own_only {W W' : World} {g B k : Nat} {l : Value} {xs : List Value} {cs : Array Value} (h : W.ownsRow B TT 4 l k xs) (ho : Only g W W') (hb : W.heap[g]? = some (.cells cs TP (0, 0))) : W'.ownsRow B TT 4 l k xs := by
  refine ⟨h.1, ?_⟩
  rcases h.2 with h2 | ⟨j, cap, cur, hv, hg, hh, r⟩
  · exact .inl h2
  · refine .inr ⟨j, cap, cur, hv, hg, (ho.2 j (fun e => ?_) (lt_blk hh)).trans hh, r⟩
    subst e
    rw [hh] at hb
    injection hb with hb
    injection hb with _ ht
    exact absurd ht (by decide)

/-- 'append(a, b...)', both rows of the call's own (b may be nil), and where the new one lies. -/
theorem wpList_append_rows_at {P : Program} {w : World} {ops : Array Oper} {rest : List Oper} {o : Oper} {a : Act} {Q : Exit → Act → World → Prop} (hgd : o.guard = none) (s x : Operand) (t : TypeId)
    (ho : o.op = .call { callee := .builtin .append, args := #[s, x], argTypes := #[t, t] })
    (base base' : Nat) (e : TypeId) (i : TypeInfo) (z : Value) (size bytes : Nat) (ht : P.underlying t = some (.slice e)) (hi : P.info? e = some i) (hz : i.zero = some z)
    (hsize : i.size = size) (hby : i.bytes = bytes) (hzs : z.cells.size = size) (hsz : 0 < size)
    (v : Value) (n : Nat) (xs : List Value) (hs : a.eval s = v) (hown : w.ownsRow base e size v n xs)
    (u : Value) (m : Nat) (news : List Value) (hx : a.eval x = u) (hown' : w.ownsRow base' e size u m news) (h1 : ∀ u ∈ news, u.oneCell' = true)
    (h63 : n + m ≤ maxLen) (hbytes : (n + m) * bytes ≤ 140737488355328) (hbase : base ≤ w.heap.size)
    (h : ∀ v' w', w'.ownsRow base e size v' (n + m) (xs ++ news) → w.grownBy w' v.ownBlock → (v'.ownBlock = v.ownBlock ∨ v'.ownBlock = some w.heap.size) → wpList P ops Q rest (a.put o.dst v') w') : wpList P ops Q (o :: rest) a w := by
  rcases hown'.2 with ⟨rfl, rfl⟩ | ⟨g, cap, cur, rfl, _⟩
  · have hn : news = [] := List.eq_nil_of_length_eq_zero (by simpa using hown'.1)
    subst hn
    exact wpList_append_own_none hgd s x t ho base e i size ht hi v n xs hs hown hx (h v w (by simpa using hown) (World.grownBy.refl w _) (.inl rfl))
  · exact wpList_append_own_at _ hgd s x t ho base e i z size bytes ht hi hz hsize hby hzs hsz v n xs hs hown ⟨g, 0, none⟩ m cap news hx hown'.1 (hown'.cells (g := g) rfl) h1 h63 hbytes hbase fun v' w' h2 h3 _ h4 => h v' w' h2 h3 h4

/-- Between two rounds of what takes. -/
structure LB (w W0 W : World) (d : Nat) (got want : Value) (ts ws : List T4) : Prop where
  pool : ∃ f, Pl W w.heap.size w.heap.size f 32 (ts.drop d)
  row : W.ownsRow w.heap.size TT 4 got d (tcells (ts.take d))
  wnt : W.ownsRow w.heap.size TT 4 want ws.length (tcells ws)
  ap : want.ownBlock = none ∨ want.ownBlock ≠ got.ownBlock
  le : d ≤ ts.length
  km : KM W0 W
  bel : Below w.heap.size w W

/-- One call of Take, and what it took appended. -/
theorem LB.step {w W0 W W2 W3 : World} {d m f' : Nat} {got got' want : Value} {ts ws : List T4} (h : LB w W0 W d got want ts ws) (hm : m ≤ ts.length - d) (hp : Pl W2 w.heap.size w.heap.size f' 32 ((ts.drop d).take m ++ (ts.drop d).drop m |>.drop m))
    (hk : KM W W2) (ho : Only w.heap.size W W2) (hb : Below w.heap.size W W2) (hrow : W3.ownsRow w.heap.size TT 4 got' (d + m) (tcells (ts.take d) ++ tcells ((ts.drop d).take m))) (hg : W2.grownBy W3 got.ownBlock) (hloc : got'.ownBlock = got.ownBlock ∨ got'.ownBlock = some W2.heap.size) :
    LB w W0 W3 (d + m) got' want ts ws := by
  obtain ⟨f, hpl⟩ := h.pool
  obtain ⟨cs, hcs, _⟩ := hpl.blk
  have hgot2 := own_only h.row ho hcs
  have hwnt2 := own_only h.wnt ho hcs
  have hp2 : Pl W2 w.heap.size w.heap.size f' 32 (ts.drop (d + m)) := by
    rw [List.take_append_drop] at hp
    rw [List.drop_drop] at hp
    exact hp
  have hk3 : KM W2 W3 := KM.grown hgot2 (by decide) hg
  have hbel2 := h.bel.trans hb
  obtain ⟨cs2, hcs2, _⟩ := hp2.blk
  refine ⟨⟨f', hp2.same (hg.block _ (lt_blk hcs2) fun heq => ?_) hk3⟩, ?_, own_apart hwnt2 h.ap hg, ?_, by have := h.le; omega, (h.km.trans hk).trans hk3, hbel2.grown hg hbel2.size (own_ge hgot2)⟩
  · obtain ⟨cs', fr', ho'⟩ := own_blk_type hgot2 heq.symm hcs2
    injection ho' with _ ht
    exact absurd ht (by decide)
  · rw [List.take_add, tcells_app]
    exact hrow
  · rcases hloc with hl | hl
    · rw [hl]; exact h.ap
    · cases hw : want.ownBlock with
      | none => exact .inl rfl
      | some j =>
        right
        rw [hl]
        intro e
        injection e with e
        have := (hwnt2.lt j hw).2
        omega

/-- Between two rounds of what adds. -/
structure LA (w W : World) (k : Nat) (want : Value) (ts ws : List T4) : Prop where
  pool : ∃ f, Pl W w.heap.size w.heap.size f 32 ts
  row : W.ownsRow w.heap.size TT 4 want ws.length (tcells ws)
  len : ts.length = ws.length
  le : ws.length ≤ k
  sim : ∀ i (h : i < ts.length) (h' : i < ws.length), Sim ts[i] ws[i]
  inp : ∀ x ∈ ws, Rd w x.A x.len x.ms ∧ x.len ≤ 12
  bel : Below w.heap.size w W

theorem LA.below {w W W1 : World} {k : Nat} {want : Value} {ts ws : List T4} (h : LA w W k want ts ws) (hb : Below W.heap.size W W1) : LA w W1 k want ts ws := by
  obtain ⟨f, hp⟩ := h.pool
  exact ⟨⟨f, hp.below hb⟩, own_below h.row hb, h.len, h.le, h.sim, h.inp, h.bel.trans (hb.mono h.bel.size)⟩

theorem sim_snoc {ts ws : List T4} {t x : T4} (hl : ts.length = ws.length) (h : ∀ i (h : i < ts.length) (h' : i < ws.length), Sim ts[i] ws[i]) (hx : Sim t x) : ∀ i (h : i < (ts ++ [t]).length) (h' : i < (ws ++ [x]).length), Sim (ts ++ [t])[i] (ws ++ [x])[i] := by
  intro i h1 h2
  simp at h1
  by_cases hi : i < ts.length
  · rw [List.getElem_append_left hi, List.getElem_append_left (by omega)]
    exact h i hi (by omega)
  · obtain rfl : i = ts.length := by omega
    rw [List.getElem_append_right (Nat.le_refl _), List.getElem_append_right (by omega)]
    simp only [Nat.sub_self, List.getElem_cons_zero, hl]
    exact hx

set_option maxRecDepth 100000 in
set_option maxHeartbeats 1000000 in
theorem law_long (A B : Option Addr) (len cap n c : Nat) (w : World) (h : 30 < len ∨ 40 < n) (hl : len ≤ 9223372036854775807) (hn : n ≤ 9223372036854775807) :
    Calls Try.prog 4 #[.slice A len cap, .slice B n c] w fun e w' => e = .returned (.bool true) ∧ Below w.heap.size w w' := by
  by_cases h1 : (30 : Int) < (len : Int)
  · go_enter Try.func4, Try.ntmps4
    go_wp2_with fail
    refine (awake10_any _).mono ?_
    rintro e w1 ⟨rfl, hb⟩
    go_wp2
    go_ret
    exact ⟨rfl, hb⟩
  · have h2 : (40 : Int) < (n : Int) := by omega
    go_enter Try.func4, Try.ntmps4
    go_wp2_with fail
    refine (awake10_any _).mono ?_
    rintro e w1 ⟨rfl, hb⟩
    go_wp2
    go_ret
    exact ⟨rfl, hb⟩

set_option maxRecDepth 100000 in
set_option maxHeartbeats 4000000 in
theorem law_main (A B : Option Addr) (len cap n c : Nat) (qs : List T4) (zs : List Int) (w : World) (hr : RdX w A len qs) (hq : ∀ q ∈ qs, q.ok w) (hz : Ri w B n zs) (hl : len ≤ 30) (hn : n ≤ 40) :
    Calls Try.prog 4 #[.slice A len cap, .slice B n c] w fun e w' => e = .returned (.bool true) ∧ Below w.heap.size w w' := by
  obtain ⟨i1, hi1, hy0, hy1, hy2⟩ := info_parts infoT
  have h1 : (len : Int) ≤ 30 := by omega
  have h2 : (n : Int) ≤ 40 := by omega
  have HR := Lib.hid (And.intro hr hq)
  have HZ := Lib.hid hz
  clear hr hq hz
  go_enter Try.func4, Try.ntmps4
  go_wp2_with fail
  refine (pnew_ok 32 w (by decide) (by decide)).mono ?_
  rintro e w1 ⟨rfl, hw1⟩
  have H0 := Lib.hid (show LA w w1 0 (.slice none 0 0) [] [] from by
    rw [hw1]
    exact ⟨⟨0, Pl.new w _ (Nat.le_refl _) 32⟩, World.ownsRow_nil _ _ _ _, rfl, Nat.le_refl _, fun i h => absurd h (by simp), fun x hx => absurd hx (by simp), (Below.refl _ _).alloc (Nat.le_refl _) _⟩)
  clear hw1
  go_wp2
  go_loopw [7, 9] (fun want i wr => ∃ (k : Nat) (ts ws : List T4), i = .int .i64 (k : Int) ∧ k ≤ len ∧ LA w wr k want ts ws) (fun _ i _ => len - (intOf i).toNat)
  case atStart => exact ⟨0, [], [], rfl, Nat.zero_le _, H0.out⟩
  case round =>
    obtain ⟨k, ts, ws, rfl, hk, hla⟩ := hrel
    have HL := Lib.hid hla
    obtain ⟨Aw, cw, hwv⟩ := own_formN hla.row
    subst hwv
    clear hla
    by_cases hlt : k < len
    · have hkq : k < qs.length := by have := HR.out.1.1; omega
      obtain ⟨b, off, hAe, hbl, a0, a1, a2, a3⟩ := HR.out.1.at hkq
      have hok := HR.out.2 _ (List.getElem_mem hkq)
      generalize qs[k] = q at a0 a1 a2 a3 hok
      have e1 : ∀ i, wr.cell? ⟨b, i, none⟩ = w.cell? ⟨b, i, none⟩ := fun i => HL.out.bel.cell (p := ⟨b, i, none⟩) hbl
      have b0 := (e1 _).trans a0
      have b1 := (e1 _).trans a1
      have b2 := (e1 _).trans a2
      have b3 := (e1 _).trans a3
      have hi0 : (0 : Int) ≤ (k : Int) := by omega
      have hkn : (k : Int) < (len : Int) := by omega
      have HA0 := Lib.hid (And.intro a0 (And.intro a1 (And.intro a2 (And.intro a3 hbl))))
      have HOK := Lib.hid hok
      have hcm : q.len ≤ 9223372036854775807 := by have := HOK.out.1; have := HOK.out.2.1; unfold maxLen at this; omega
      subst hAe
      clear a0 a1 a2 a3 e1 hbl hok
      go_wp2_with fail
      refine (few05_any q.side q.acc q.n q.A q.len q.cap q.ms wr (HOK.out.2.2.1.below HL.out.bel) hcm).mono ?_
      rintro e w2 ⟨fb, rfl, hf12, hb2⟩
      have HL2 := Lib.hid (HL.out.below hb2)
      clear hb2 b0 b1 b2 b3
      cases fb
      · go_wp2_with fail
        refine (awake10_any _).mono ?_
        rintro e w3 ⟨rfl, hb3⟩
        have HB3 := Lib.hid (HL2.out.bel.trans (hb3.mono HL2.out.bel.size))
        clear hb3
        go_wp2
        go_ret
        exact ⟨rfl, HB3.out⟩
      · have h12 : q.len ≤ 12 := hf12 rfl
        have e1 : ∀ i, w2.cell? ⟨b, i, none⟩ = w.cell? ⟨b, i, none⟩ := fun i => HL2.out.bel.cell (p := ⟨b, i, none⟩) HA0.out.2.2.2.2
        have b0 := (e1 _).trans HA0.out.1
        have b1 := (e1 _).trans HA0.out.2.1
        have b2 := (e1 _).trans HA0.out.2.2.1
        have b3 := (e1 _).trans HA0.out.2.2.2.1
        obtain ⟨f, hp⟩ := HL2.out.pool
        have HP := Lib.hid hp
        have hle := HL2.out.le
        have hlen := HL2.out.len
        have hrq := Lib.hid (HOK.out.2.2.1.below HL2.out.bel)
        clear e1 hp hf12
        by_cases ht : txright q.side q.acc q.ms = true
        · go_wp2_with fail
          refine (padd_ok HP.out q hrq.out (by omega) ht (by omega) (by decide)).mono ?_
          rintro e w3 ⟨rfl, Ao, co, hp3, hk3, ho3, hb3⟩
          have e3 : ∀ i, w3.cell? ⟨b, i, none⟩ = w.cell? ⟨b, i, none⟩ := fun i => (HL2.out.bel.trans hb3).cell (p := ⟨b, i, none⟩) HA0.out.2.2.2.2
          have d0 := (e3 _).trans HA0.out.1
          have d1 := (e3 _).trans HA0.out.2.1
          have d2 := (e3 _).trans HA0.out.2.2.1
          have d3 := (e3 _).trans HA0.out.2.2.2.1
          obtain ⟨cs, hcs, _⟩ := HP.out.blk
          have hrow3 := own_only HL2.out.row ho3 hcs
          have H3 := Lib.hid (And.intro hp3 (HL2.out.bel.trans hb3))
          have hz3 := H3.out.2.size
          have HT := Lib.hid ht
          clear hp3 hk3 ho3 hb3 e3 b0 b1 b2 b3 ht hlen
          generalize hwl : ws.length = m at *
          go_wp2_with (at_builtin; refine wpList_append_own_at _ rfl _ _ 34 rfl w.heap.size 40 i1 _ 4 48 Try.underlying34 hi1 hy0 hy1 hy2 rfl (by decide) _ _ _ rfl (hrow3.alloc _) ⟨w3.heap.size, 0, none⟩ 1 1 q.cells.toList rfl rfl (cells4_new w3 q _) (cells4_one q) (by unfold maxLen; omega) (by omega) (by simp; omega) ?_)
          intro v1 w4 hown4 hg4 _ _
          obtain ⟨hP4, hK4⟩ := H3.out.1.append (W2 := w4) hrow3 hg4
          have H4 := Lib.hid (And.intro hP4 (And.intro hown4 (below_push H3.out.2 hz3 hrow3 hg4)))
          clear hP4 hK4 hown4 hg4 hrow3 d0 d1 d2 d3 hz3
          go_wp2
          refine ⟨⟨k + 1, ts ++ [⟨q.side, q.acc, q.n, Ao, q.len, co, q.ms⟩], ws ++ [q], by go_num, by omega, ⟨f, H4.out.1⟩, ?_, ?_, ?_, ?_, ?_, H4.out.2.2⟩, by simp [intOf]; omega⟩
          · rw [List.length_append, List.length_singleton, hwl, tcells_snoc]
            exact H4.out.2.1
          · have := HL2.out.len
            simp [this]
          · simp [hwl]; omega
          · exact sim_snoc HL2.out.len HL2.out.sim ⟨rfl, rfl, rfl, rfl, rfl⟩
          · intro x hx
            rcases List.mem_append.1 hx with hx | hx
            · exact HL2.out.inp x hx
            · simp at hx
              subst hx
              exact ⟨HOK.out.2.2.1, h12⟩
        · have ht' : txright q.side q.acc q.ms = false := by simpa using ht
          go_wp2_with fail
          refine (padd_bad q hrq.out (by omega) ht').mono ?_
          rintro e w3 ⟨rfl, hb3⟩
          have H3 := Lib.hid (HL2.out.below hb3)
          clear hb3 b0 b1 b2 b3 ht
          go_wp2
          exact ⟨⟨k + 1, ts, ws, by go_num, by omega, H3.out.pool, H3.out.row, H3.out.len, Nat.le_succ_of_le H3.out.le, H3.out.sim, H3.out.inp, H3.out.bel⟩, by simp [intOf]; omega⟩
    · obtain rfl : k = len := by omega
      have hts : ts.length ≤ 30 := by have := HL.out.len; have := HL.out.le; omega
      obtain ⟨f0, hp0⟩ := HL.out.pool
      have HB0 := Lib.hid (show LB w wr wr 0 (.slice none 0 0) (.slice Aw ws.length cw) ts ws from ⟨⟨f0, hp0⟩, World.ownsRow_nil _ _ _ _, HL.out.row, by cases Aw with | none => exact .inl rfl | some a => exact .inr (by simp [Value.ownBlock]), Nat.zero_le _, KM.refl _, HL.out.bel⟩)
      clear hp0
      go_wp2
      go_loopw [8, 10] (fun got i wx => ∃ (j d : Nat), i = .int .i64 (j : Int) ∧ j ≤ n ∧ LB w wr wx d got (.slice Aw ws.length cw) ts ws) (fun _ i _ => n - (intOf i).toNat)
      case atStart => exact ⟨0, 0, rfl, Nat.zero_le _, HB0.out⟩
      case round =>
        obtain ⟨j, d, rfl, hj, hlb⟩ := hrel
        have HB := Lib.hid hlb
        clear hlb
        by_cases hjn : j < n
        · obtain ⟨b, off, hBe, hbl, hc⟩ := HZ.out (by omega)
          have hcj := (HB.out.bel.cell (p := ⟨b, off + j, none⟩) hbl).trans (hc j hjn)
          generalize zs.getD j 0 = z at hcj
          subst hBe
          have hi0 : (0 : Int) ≤ (j : Int) := by omega
          have hkn : (j : Int) < (n : Int) := by omega
          clear hc
          obtain ⟨Ag, cg, hgv⟩ := own_formN HB.out.row
          subst hgv
          obtain ⟨f, hp⟩ := HB.out.pool
          have HP := Lib.hid hp
          clear hp
          obtain ⟨m, hm⟩ : ∃ m, m = min (z).toNat (ts.drop d).length := ⟨_, rfl⟩
          have hmd : m ≤ ts.length - d := by rw [hm, List.length_drop]; exact Nat.min_le_right _ _
          have HM := Lib.hid hm
          clear hm
          go_wp2_with fail
          refine (ptake_any HP.out HB.out.bel.size (z) m HM.out).mono ?_
          rintro e w2 ⟨u, f2, rfl, hru, hp2, hk2, ho2, hb2⟩
          obtain ⟨cs, hcs, _⟩ := HP.out.blk
          have hrg := own_only HB.out.row ho2 hcs
          have hz2 : w.heap.size ≤ w2.heap.size := (HB.out.bel.trans hb2).size
          have H2 := Lib.hid (And.intro hp2 (And.intro hk2 (And.intro ho2 hb2)))
          have hdl := HB.out.le
          have hon := tcells_one ((ts.drop d).take m)
          clear hp2 hk2 ho2 hb2 hcs
          go_wp2_with (at_builtin; refine wpList_append_rows_at rfl _ _ 34 rfl w.heap.size _ 40 i1 _ 4 48 Try.underlying34 hi1 hy0 hy1 hy2 rfl (by decide) _ _ _ rfl hrg _ m _ rfl hru hon (by unfold maxLen; omega) (by omega) hz2 ?_)
          intro v1 w3 hown3 hg3 hloc3
          have HB3 := Lib.hid (HB.out.step hmd (by rw [List.take_append_drop]; exact H2.out.1) H2.out.2.1 H2.out.2.2.1 H2.out.2.2.2 hown3 hg3 hloc3)
          clear hown3 hg3 hloc3 hrg hru hon
          go_wp2
          exact ⟨⟨j + 1, d + m, by go_num, by omega, HB3.out⟩, by simp [intOf]; omega⟩
        · obtain rfl : j = n := by omega
          obtain ⟨Ag, cg, hgv⟩ := own_formN HB.out.row
          subst hgv
          obtain ⟨f, hp⟩ := HB.out.pool
          have HP := Lib.hid hp
          clear hp
          obtain ⟨m, hm⟩ : ∃ m, m = min (32 : Int).toNat (ts.drop d).length := ⟨_, rfl⟩
          have hmd : m ≤ ts.length - d := by rw [hm, List.length_drop]; exact Nat.min_le_right _ _
          have HM := Lib.hid hm
          clear hm
          go_wp2_with fail
          refine (ptake_any HP.out HB.out.bel.size (32 : Int) m HM.out).mono ?_
          rintro e w2 ⟨u, f2, rfl, hru, hp2, hk2, ho2, hb2⟩
          obtain ⟨cs, hcs, _⟩ := HP.out.blk
          have hrg := own_only HB.out.row ho2 hcs
          have hz2 : w.heap.size ≤ w2.heap.size := (HB.out.bel.trans hb2).size
          have H2 := Lib.hid (And.intro hp2 (And.intro hk2 (And.intro ho2 hb2)))
          have hdl := HB.out.le
          have hon := tcells_one ((ts.drop d).take m)
          clear hp2 hk2 ho2 hb2 hcs
          go_wp2_with (at_builtin; refine wpList_append_rows_at rfl _ _ 34 rfl w.heap.size _ 40 i1 _ 4 48 Try.underlying34 hi1 hy0 hy1 hy2 rfl (by decide) _ _ _ rfl hrg _ m _ rfl hru hon (by unfold maxLen; omega) (by omega) hz2 ?_)
          intro v1 w3 hown3 hg3 hloc3
          have HB3 := Lib.hid (HB.out.step hmd (by rw [List.take_append_drop]; exact H2.out.1) H2.out.2.1 H2.out.2.2.1 H2.out.2.2.2 hown3 hg3 hloc3)
          clear hown3 hg3 hloc3 hrg hru hon
          have hall : d + m = ts.length := by
            have := HM.out
            rw [List.length_drop] at this
            omega
          have hws : ws.length = d + m := by have := HL.out.len; omega
          obtain ⟨Af, cf, hvf⟩ := own_formN HB3.out.row
          subst hvf
          have HALL := Lib.hid (And.intro hall hws)
          rw [hws]
          clear hall hws
          go_wp2_with fail
          refine (awake10_any _).mono ?_
          rintro e w4 ⟨rfl, hb4⟩
          have hgot4 := own_below HB3.out.row hb4
          have hwnt4 := own_below HB3.out.wnt hb4
          rw [List.take_of_length_le (by have := HALL.out.1; omega)] at hgot4
          rw [HALL.out.2] at hwnt4
          have hkm4 := HB3.out.km.trans (KM.below hb4)
          have hbel4 := HB3.out.bel.trans (hb4.mono HB3.out.bel.size)
          obtain ⟨f3, hp3⟩ := HB3.out.pool
          have HP4 := Lib.hid (hp3.below hb4)
          have hRp : ∀ p ∈ ts, Rd w4 p.A p.len p.ms ∧ p.len ≤ 1000000 := fun p hp => by
            obtain ⟨f5, hpl⟩ := HL.out.pool
            obtain ⟨i, hi, rfl⟩ := List.getElem_of_mem hp
            have hsim := HL.out.sim i hi (by have := HL.out.len; omega)
            have hin := HL.out.inp _ (List.getElem_mem (show i < ws.length by have := HL.out.len; omega))
            have hms : (ts[i]).ms.length = (ts[i]).len := by rw [hsim.2.2.2.2, hsim.2.2.2.1]; exact hin.1.1
            exact ⟨row_at (own_km (hpl.rows _ (List.getElem_mem hi)) hkm4) hms, by rw [hsim.2.2.2.1]; have := hin.2; omega⟩
          have hRq : ∀ q ∈ ws, Rd w4 q.A q.len q.ms := fun q hq => (HL.out.inp q hq).1.below hbel4
          have HS4 := Lib.hid (And.intro (rowX hgot4 HALL.out.1.symm) (And.intro (rowX hwnt4 HALL.out.2) (And.intro hRp (And.intro hRq hbel4))))
          clear hgot4 hwnt4 hkm4 hbel4 hp3 hRp hRq hb4
          go_wp2_with fail
          refine (sameall_any Af Aw (d + m) cf cw ts ws w4 HS4.out.1 HS4.out.2.1 (by have := HALL.out.1; omega) HL.out.sim HS4.out.2.2.1 HS4.out.2.2.2.1).mono ?_
          rintro e w5 ⟨rfl, hb5⟩
          have hp5 := HP4.out.below hb5
          rw [List.drop_eq_nil_of_le (by have := HALL.out.1; omega)] at hp5
          have HP5 := Lib.hid hp5
          have HB5 := Lib.hid (HS4.out.2.2.2.2.trans (hb5.mono HS4.out.2.2.2.2.size))
          clear hb5 hp5
          go_wp2_with fail
          refine (plen_any HP5.out).mono ?_
          rintro e w' ⟨rfl, hw'⟩
          obtain rfl := hw'.symm
          go_wp2_with fail
          refine (ptake_any HP5.out HB5.out.size 1 0 (by simp)).mono ?_
          rintro e w6 ⟨u6, f6, rfl, hr6, -, -, -, hb6⟩
          obtain ⟨A6, c6, hu6⟩ := own_formN hr6
          subst hu6
          have HB6 := Lib.hid (HB5.out.trans hb6)
          clear hr6 hb6
          go_wp2
          go_ret
          exact ⟨rfl, HB6.out⟩
end Go.Proofs.Ytjjomlideieofaa.poolOrder
