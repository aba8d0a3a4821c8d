/- 'TokenPlays': the walk over few acts. -/
import Derived.Test.YticcobciafbleaaTokenPlays
namespace Go.Proofs.Yticcobciafbleaa.tokenPlays
open Go.RowKit Go.Shelf Token Forest

theorem own_lit {w : World} {B k e : Nat} {v : Value} (hB : B ≤ k) (hh : w.heap[k]? = some (.cells #[v] e (0, 0))) : w.ownsRow B e 1 (.slice (some ⟨k, 0, none⟩) 1 1) 1 [v] :=
  ⟨rfl, .inr ⟨k, 1, #[v], rfl, hB, hh, Nat.le_refl _, by decide, rfl, rfl⟩⟩
theorem blk_alloc {w : World} {k : Nat} {o o' : Obj} (h : w.heap[k]? = some o) : (w.alloc o').heap[k]? = some o := (Below.heap_alloc _ _ _ (lt_blk h)).trans h
theorem blk_new (w : World) (cs : Array Value) (t : TypeId) (k : Nat) (h : k = w.heap.size) : (w.alloc (.cells cs t)).heap[k]? = some (.cells cs t (0, 0)) := h ▸ heap_alloc_new w _

theorem chain_len (ps cs : List Int) : ∀ n k, (Forest.chain ps cs n k).length ≤ n := by
  intro n
  induction n with
  | zero => intro k; exact Nat.le_refl _
  | succ n ih =>
    intro k
    rw [Forest.chain]
    split
    · simp
    · have := ih (ps.getD k 0).toNat
      rw [List.length_cons]; omega
theorem ch_cons (ps cs : List Int) (j : Nat) : ∃ r, ch ps cs j = cs.getD j 0 :: r := by
  unfold ch; rw [chain]; exact ⟨_, rfl⟩
theorem call_set {w : World} {B g : Nat} {cs : List Int} (code : Int) (h : Tok w B (some ⟨g, 0, none⟩) (0 :: cs)) (hc : code ≠ 0) :
    Calls Try.prog 25 #[.pointer (some ⟨g, 0, none⟩), .int .i64 code] w fun e w' => e = .returned (.bool true) ∧ w' = w.setCell ⟨g, 1, none⟩ (.int .i64 code) := by
  obtain ⟨g', q, hgg, hg, hb, ht⟩ := h
  obtain rfl : g = g' := by injection hgg with h; injection h
  have c1 := cell_blk hb 1
  have f1 := free_blk hb 1
  simp at c1 f1
  have h0 : (code == 0) = false := by simpa using hc
  clear hb ht
  go_enter Try.func25, Try.ntmps25
  go_wp2
  go_ret
  exact ⟨rfl, rfl⟩

set_option maxRecDepth 20000 in
set_option maxHeartbeats 40000000 in
theorem walk_few (A : Option Addr) (len cap : Nat) (zs : List (Int × Int × Int)) (hl : len ≤ 60) (w : World) (hr : Rt w A len zs) : Calls Try.prog 5 #[.slice A len cap] w fun e w' => e = .returned (.bool true) ∧ Below w.heap.size w w' := by
  obtain ⟨iP, hiP, hzP0, hzP1, hzP2⟩ := info_parts infoP
  obtain ⟨iE, hiE, hzE0, hzE1, hzE2⟩ := info_parts infoE
  obtain ⟨iI, hiI, hzI0, hzI1, hzI2⟩ := info_parts infoI
  have HR := Lib.hid hr
  clear hr
  have hlen : (len : Int) ≤ 60 := by omega
  go_enter Try.func5, Try.ntmps5
  go_wp2_with fail
  refine (new_tok _).mono ?_
  rintro e w1 ⟨rfl, t1, b1, s1⟩
  go_wp2
  have F0 : F ((((w1.alloc (.cells #[.pointer (some ⟨w.heap.size, 0, none⟩)] TP)).alloc (.cells #[.int .i64 (-1)] 3)).alloc (.cells #[.int .i64 0] TE)).alloc (.cells #[.slice (some ⟨w.heap.size + 1 + 1, 0, none⟩) 1 1, .slice (some ⟨w.heap.size + 1 + 1 + 1, 0, none⟩) 1 1] TF)) w.heap.size (w.heap.size + 1 + 1 + 1 + 1) (.slice (some ⟨w.heap.size + 1, 0, none⟩) 1 1) (.slice (some ⟨w.heap.size + 1 + 1, 0, none⟩) 1 1) (.slice (some ⟨w.heap.size + 1 + 1 + 1, 0, none⟩) 1 1) [w.heap.size] [-1] [0] := by
    obtain ⟨g, q, hg, _, hb, rfl⟩ := t1
    injection hg with hg
    injection hg with hg
    subst hg
    refine ⟨rfl, rfl, by omega, blk_new _ _ _ _ (by simp [s1]), own_lit (by omega) (blk_alloc (blk_alloc (blk_new _ _ _ _ (by simp [s1])))), own_lit (by omega) (blk_alloc (blk_new _ _ _ _ (by simp [s1]))), own_lit (by omega) (blk_alloc (blk_alloc (blk_alloc (blk_new _ _ _ _ (by simp [s1]))))), fun k hk => ?_, ⟨fun k hk => ?_⟩, fun j k hj hk => ?_, fun k hk => ?_⟩
    · obtain rfl : k = 0 := by simp at hk; omega
      exact Nat.le_refl _
    · obtain rfl : k = 0 := by simp at hk; omega
      exact .inl rfl
    · simp at hk; omega
    · obtain rfl : k = 0 := by simp at hk; omega
      exact blk_alloc (blk_alloc (blk_alloc (blk_alloc hb)))
  have B0 : Below w.heap.size w ((((w1.alloc (.cells #[.pointer (some ⟨w.heap.size, 0, none⟩)] TP)).alloc (.cells #[.int .i64 (-1)] 3)).alloc (.cells #[.int .i64 0] TE)).alloc (.cells #[.slice (some ⟨w.heap.size + 1 + 1, 0, none⟩) 1 1, .slice (some ⟨w.heap.size + 1 + 1 + 1, 0, none⟩) 1 1] TF)) := (((b1.alloc (by omega) _).alloc (by simp; omega) _).alloc (by simp; omega) _).alloc (by simp; omega) _
  have H0 := Lib.hid (And.intro F0 B0)
  clear F0 B0 t1 b1
  go_loopw [3, 5] (fun a i wr => ∃ k : Nat, i = .int .i64 (k : Int) ∧ k ≤ len ∧ ∃ gs ps cs p o, F wr w.heap.size (w.heap.size + 1 + 1 + 1 + 1) a p o gs ps cs ∧ gs.length ≤ k + 1 ∧ 0 < gs.length ∧ Below w.heap.size w wr ∧ w.heap.size ≤ wr.heap.size)
    (fun _ i _ => len - (intOf i).toNat)
  case atStart => exact ⟨0, rfl, Nat.zero_le _, _, _, _, _, _, H0.out.1, by simp, by simp, H0.out.2, H0.out.2.size⟩
  case round =>
    obtain ⟨k, rfl, hk, gs, ps, cs, p, o, hF, hgl, hg0, hB, hz⟩ := hrel
    obtain ⟨Aa, ca, rfl⟩ := own_form hF.row
    have HH := Lib.hid (And.intro hF (And.intro hB hz))
    clear hF hB hz
    have hgi : (0 : Int) < (gs.length : Int) := by omega
    have hgm : (gs.length : Int) ≤ 100 := by omega
    by_cases hlt : k < len
    · obtain ⟨b, off, rfl, hbl, hc⟩ := HR.out (by omega)
      obtain ⟨ca0, cb0, cc0⟩ := hc k hlt
      have x0 := (HH.out.2.1.cell (p := ⟨b, off + k * 3, none⟩) hbl).trans ca0
      have x1 := (HH.out.2.1.cell (p := ⟨b, off + k * 3 + 1, none⟩) hbl).trans cb0
      have x2 := (HH.out.2.1.cell (p := ⟨b, off + k * 3 + 2, none⟩) hbl).trans cc0
      have hk0 : (0 : Int) ≤ (k : Int) := by omega
      have hk1 : (k : Int) < (len : Int) := by omega
      clear ca0 cb0 cc0 hc
      generalize (zs.getD k (0, 0, 0)).1 = za at x0
      generalize (zs.getD k (0, 0, 0)).2.1 = zb at x1
      generalize (zs.getD k (0, 0, 0)).2.2 = zc at x2
      have hgp : ¬ (gs.length : Int) = 0 := by omega
      have hgb : ((gs.length : Int) == 0) = false := by simpa using hgp
      go_upto_block 2 with fail
      have hat : ∃ j : Nat, wrap64 ((IntKind.u64.wrap zb).tmod (gs.length : Int)) = (j : Int) ∧ j < gs.length := by
        have h0 : 0 ≤ IntKind.u64.wrap zb := by rw [IntKind.wrap_u64]; omega
        have h1 : 0 ≤ (IntKind.u64.wrap zb) % (gs.length : Int) := Int.emod_nonneg _ hgp
        have h2 : (IntKind.u64.wrap zb) % (gs.length : Int) < (gs.length : Int) := Int.emod_lt_of_pos _ hgi
        refine ⟨((IntKind.u64.wrap zb) % (gs.length : Int)).toNat, ?_, by omega⟩
        rw [Int.tmod_eq_emod_of_nonneg h0, IntWalk.wrap64_in _ ⟨by omega, by omega⟩]
        omega
      obtain ⟨j, hj, hjl⟩ := hat
      rw [hj]
      clear hj
      have hj0 : (0 : Int) ≤ (j : Int) := by omega
      have hj1 : (j : Int) < (gs.length : Int) := by omega
      generalize bits .and .i64 za 3 = t
      clear x0 x1
      go_cut [3] (fun a wx => ∃ gs2 ps2 cs2 p2 o2, F wx w.heap.size (w.heap.size + 1 + 1 + 1 + 1) a p2 o2 gs2 ps2 cs2 ∧ gs2.length ≤ k + 2 ∧ 0 < gs2.length ∧ Below w.heap.size w wx ∧ w.heap.size ≤ wx.heap.size)
      case first =>
        by_cases ht0 : t = 0
        · subst ht0
          clear x2
          go_wp2_with fail
          refine (new_tok _).mono ?_
          rintro e w2 ⟨rfl, t2, b2, s2⟩
          have htk : w2.heap[wr.heap.size]? = some (.cells #[.pointer (par gs (-1)), .int .i64 0] TT (0, 0)) := by
            obtain ⟨g, q, hg, _, hb, rfl⟩ := t2
            injection hg with hg
            injection hg with hg
            subst hg
            exact hb
          have M2 := Lib.hid (And.intro (F.start HH.out.1 HH.out.2.1 HH.out.2.2 b2) (And.intro b2 htk))
          have z2 : w.heap.size ≤ w2.heap.size := Nat.le_trans HH.out.2.2 b2.size
          clear t2 b2 htk s2
          go_wp2_with (at_builtin; refine wpList_append_own_at _ rfl _ _ 43 rfl w.heap.size TP iP (.pointer none) 1 8 Try.underlying43 hiP hzP0 hzP1 hzP2 rfl (by decide) _ _ _ rfl (M2.out.1.row.alloc _) _ 1 1 [.pointer (some ⟨wr.heap.size, 0, none⟩)] rfl rfl (cell_one_new _ _ _) (one_one rfl) (by unfold maxLen; have := HH.out.1.lp; have := HH.out.1.lc; omega) (by have := HH.out.1.lp; have := HH.out.1.lc; omega) (by simp; omega) ?_)
          intro v3 w3 hown3 hg3 _ _
          have m3 := M2.out.1.append_a hown3 hg3
          have z3 := m3.sz
          have c0 := cell_blk m3.box 0
          simp at c0
          have M3 := Lib.hid m3
          clear m3 hown3 hg3
          go_upto_region 18 with fail
          go_wp2_with (at_builtin; refine wpList_append_own_at _ rfl _ _ 45 rfl w.heap.size 3 iI (.int .i64 0) 1 8 Try.underlying45 hiI hzI0 hzI1 hzI2 rfl (by decide) _ _ _ rfl (M3.out.rp.alloc _) _ 1 1 [.int .i64 (-1)] rfl rfl (cell_one_new _ _ _) (one_one rfl) (by unfold maxLen; have := HH.out.1.lp; have := HH.out.1.lc; omega) (by have := HH.out.1.lp; have := HH.out.1.lc; omega) (by simp; omega) ?_)
          intro v4 w4 hown4 hg4 _ _
          obtain ⟨A4, k4, rfl⟩ := own_form hown4
          obtain ⟨hb4, m4⟩ := M3.out.append_p hown4 hg4
          have d0 := cell_blk hb4 0
          have f0 := free_blk hb4 0
          simp at d0
          have M4 := Lib.hid m4
          clear m4 hown4 hg4 hb4 c0
          go_upto_region 19 with fail
          have z4 := M4.out.sz
          have c1 := cell_blk M4.out.box 1
          simp at c1
          clear d0 f0
          generalize w4.setCell ⟨w.heap.size + 1 + 1 + 1 + 1, 0, none⟩ (.slice A4 (ps.length + 1) k4) = w5 at *
          go_wp2_with (at_builtin; refine wpList_append_own_at _ rfl _ _ 46 rfl w.heap.size TE iE (.int .i64 0) 1 8 Try.underlying46 hiE hzE0 hzE1 hzE2 rfl (by decide) _ _ _ rfl (M4.out.ro.alloc _) _ 1 1 [.int .i64 0] rfl rfl (cell_one_new _ _ _) (one_one rfl) (by unfold maxLen; have := HH.out.1.lp; have := HH.out.1.lc; omega) (by have := HH.out.1.lp; have := HH.out.1.lc; omega) (by simp; omega) ?_)
          intro v6 w6 hown6 hg6 _ _
          obtain ⟨A6, k6, rfl⟩ := own_form hown6
          obtain ⟨hb6, m6⟩ := M4.out.append_o hown6 hg6
          have d1 := cell_blk hb6 1
          have f1 := free_blk hb6 1
          simp at d1
          have hF6 := F.more HH.out.1 (Nat.le_refl _) HH.out.2.2 M2.out.2.1 M2.out.2.2 (.inl rfl) m6
          have M6 := Lib.hid (And.intro hF6 (And.intro m6.bel m6.sz))
          clear m6 hown6 hg6 hb6 c1 hF6
          go_wp2
          go_meet
          exact ⟨_, _, _, _, _, M6.out.1, by simp; omega, by simp, M6.out.2.1, M6.out.2.2⟩
        · have ht0b : (t == 0) = false := by simpa using ht0
          by_cases ht1 : t = 1 ∨ t = 2
          · clear x2
            obtain ⟨ua, rfl, _⟩ := own_at HH.out.1.row (by omega)
            have y0 : wr.cell? ⟨ua, j, none⟩ = some (.pointer (some ⟨gs.getD j 0, 0, none⟩)) := (HH.out.1.row.cellAt j (by omega)).trans (ptrs_at gs j hjl)
            have hch := child_tok ((HH.out.1.tk j hjl).mono (Nat.succ_le_of_lt (lt_blk (HH.out.1.tok j hjl))))
            have hpr : par gs (j : Int) = some ⟨gs.getD j 0, 0, none⟩ := by unfold par; rw [if_neg (by omega), Int.toNat_natCast]
            generalize gs.getD j 0 = gj at y0 hch hpr
            have HC := Lib.hid hch
            have HPR := Lib.hid hpr
            clear hch hpr
            rcases ht1 with rfl | rfl
            all_goals
              go_wp2_with fail
              refine HC.out.mono ?_
              rintro e w2 ⟨rfl, t2, b2, s2, k2⟩
              have htk : w2.heap[wr.heap.size]? = some (.cells #[.pointer (par gs (j : Int)), .int .i64 0] TT (0, 0)) := by
                rw [HPR.out]; exact k2
              have M2 := Lib.hid (And.intro (F.start HH.out.1 HH.out.2.1 HH.out.2.2 b2) (And.intro b2 htk))
              have z2 : w.heap.size ≤ w2.heap.size := Nat.le_trans HH.out.2.2 b2.size
              clear t2 b2 htk s2 k2 y0 HC
              go_wp2_with (at_builtin; refine wpList_append_own_at _ rfl _ _ 43 rfl w.heap.size TP iP (.pointer none) 1 8 Try.underlying43 hiP hzP0 hzP1 hzP2 rfl (by decide) _ _ _ rfl (M2.out.1.row.alloc _) _ 1 1 [.pointer (some ⟨wr.heap.size, 0, none⟩)] rfl rfl (cell_one_new _ _ _) (one_one rfl) (by unfold maxLen; have := HH.out.1.lp; have := HH.out.1.lc; omega) (by have := HH.out.1.lp; have := HH.out.1.lc; omega) (by simp; omega) ?_)
              intro v3 w3 hown3 hg3 _ _
              have m3 := M2.out.1.append_a hown3 hg3
              have z3 := m3.sz
              have c0 := cell_blk m3.box 0
              simp at c0
              have M3 := Lib.hid m3
              clear m3 hown3 hg3
              go_upto_region 23 with fail
              go_wp2_with (at_builtin; refine wpList_append_own_at _ rfl _ _ 45 rfl w.heap.size 3 iI (.int .i64 0) 1 8 Try.underlying45 hiI hzI0 hzI1 hzI2 rfl (by decide) _ _ _ rfl (M3.out.rp.alloc _) _ 1 1 [.int .i64 (j : Int)] rfl rfl (cell_one_new _ _ _) (one_one rfl) (by unfold maxLen; have := HH.out.1.lp; have := HH.out.1.lc; omega) (by have := HH.out.1.lp; have := HH.out.1.lc; omega) (by simp; omega) ?_)
              intro v4 w4 hown4 hg4 _ _
              obtain ⟨A4, k4, rfl⟩ := own_form hown4
              obtain ⟨hb4, m4⟩ := M3.out.append_p hown4 hg4
              have d0 := cell_blk hb4 0
              have f0 := free_blk hb4 0
              simp at d0
              have M4 := Lib.hid m4
              clear m4 hown4 hg4 hb4 c0
              go_upto_region 24 with fail
              have z4 := M4.out.sz
              have c1 := cell_blk M4.out.box 1
              simp at c1
              clear d0 f0
              generalize w4.setCell ⟨w.heap.size + 1 + 1 + 1 + 1, 0, none⟩ (.slice A4 (ps.length + 1) k4) = w5 at *
              go_wp2_with (at_builtin; refine wpList_append_own_at _ rfl _ _ 46 rfl w.heap.size TE iE (.int .i64 0) 1 8 Try.underlying46 hiE hzE0 hzE1 hzE2 rfl (by decide) _ _ _ rfl (M4.out.ro.alloc _) _ 1 1 [.int .i64 0] rfl rfl (cell_one_new _ _ _) (one_one rfl) (by unfold maxLen; have := HH.out.1.lp; have := HH.out.1.lc; omega) (by have := HH.out.1.lp; have := HH.out.1.lc; omega) (by simp; omega) ?_)
              intro v6 w6 hown6 hg6 _ _
              obtain ⟨A6, k6, rfl⟩ := own_form hown6
              obtain ⟨hb6, m6⟩ := M4.out.append_o hown6 hg6
              have d1 := cell_blk hb6 1
              have f1 := free_blk hb6 1
              simp at d1
              have hF6 := F.more HH.out.1 (Nat.le_refl _) HH.out.2.2 M2.out.2.1 M2.out.2.2 (.inr ⟨j, rfl, hjl⟩) m6
              have M6 := Lib.hid (And.intro hF6 (And.intro m6.bel m6.sz))
              clear m6 hown6 hg6 hb6 c1 hF6
              go_wp2
              go_meet
              exact ⟨_, _, _, _, _, M6.out.1, by simp; omega, by simp, M6.out.2.1, M6.out.2.2⟩
          · have e1 : (t == 1) = false := by simp; omega
            have e2 : (t == 2) = false := by simp; omega
            obtain ⟨ua, rfl, _⟩ := own_at HH.out.1.row (by omega)
            have y0 : wr.cell? ⟨ua, j, none⟩ = some (.pointer (some ⟨gs.getD j 0, 0, none⟩)) := (HH.out.1.row.cellAt j (by omega)).trans (ptrs_at gs j hjl)
            obtain ⟨Ao, co, rfl⟩ := own_form HH.out.1.ro
            obtain ⟨uo, hAo, y1⟩ := reads HH.out.1.ro HH.out.1.lc j hjl
            subst hAo
            have c1 := cell_blk HH.out.1.box 1
            simp at c1
            obtain ⟨rest, hrest⟩ := ch_cons ps cs j
            have htk := HH.out.1.tk j hjl
            rw [hrest] at htk
            have hset : ∀ (hz : zc ≠ 0), cs.getD j 0 = 0 → ∃ (_ : Unit), F ((wr.setCell ⟨gs.getD j 0, 1, none⟩ (.int .i64 zc)).setCell ⟨uo, j, none⟩ (.int .i64 zc)) w.heap.size (w.heap.size + 1 + 1 + 1 + 1) (.slice (some ⟨ua, 0, none⟩) gs.length ca) p (.slice (some ⟨uo, 0, none⟩) gs.length co) gs ps (cs.set j zc) ∧ Below w.heap.size w ((wr.setCell ⟨gs.getD j 0, 1, none⟩ (.int .i64 zc)).setCell ⟨uo, j, none⟩ (.int .i64 zc)) ∧ w.heap.size ≤ ((wr.setCell ⟨gs.getD j 0, 1, none⟩ (.int .i64 zc)).setCell ⟨uo, j, none⟩ (.int .i64 zc)).heap.size ∧
                (wr.setCell ⟨gs.getD j 0, 1, none⟩ (.int .i64 zc)).cell? ⟨w.heap.size + 1 + 1 + 1 + 1, 1, none⟩ = some (.slice (some ⟨uo, 0, none⟩) gs.length co) ∧ (wr.setCell ⟨gs.getD j 0, 1, none⟩ (.int .i64 zc)).cell? ⟨uo, j, none⟩ = some (.int .i64 (cs.getD j 0)) ∧ (wr.setCell ⟨gs.getD j 0, 1, none⟩ (.int .i64 zc)).frozen? ⟨uo, j, none⟩ = false := fun _ _ => by
              have hk' : Kt TT wr (wr.setCell ⟨gs.getD j 0, 1, none⟩ (.int .i64 zc)) := Kt.set (HH.out.1.tok j hjl) _
              have ro' := own_kt HH.out.1.ro hk' (by decide)
              have hb' := hk' _ _ _ _ (by decide) HH.out.1.box
              refine ⟨(), F.off HH.out.1 (w' := wr.setCell ⟨gs.getD j 0, 1, none⟩ (.int .i64 zc)) hjl (fun i hi => Below.heap_setCell _ _ _ _ (by exact hi)) (set_blk (HH.out.1.tok j hjl)) rfl, (HH.out.2.1.setCell (p := ⟨gs.getD j 0, 1, none⟩) (HH.out.1.gB j hjl) (.int .i64 zc)).setCell (p := ⟨uo, j, none⟩) ((own_ge ro') _ rfl) (.int .i64 zc), ?_, ?_, (ro'.cellAt j (by omega)).trans (ints_at cs j (by rw [HH.out.1.lc]; exact hjl)), ro'.frozenAt j⟩
              · have := HH.out.2.2; simpa [World.setCell] using this
              · have g1 := cell_blk hb' 1
                simpa using g1
            have hno : cs.getD j 0 ≠ 0 ∨ zc = 0 → Calls Try.prog 25 #[.pointer (some ⟨gs.getD j 0, 0, none⟩), .int .i64 zc] wr fun e w' => e = .returned (.bool false) ∧ w' = wr := fun h => call_no zc htk h
            have hyes : cs.getD j 0 = 0 → zc ≠ 0 → Calls Try.prog 25 #[.pointer (some ⟨gs.getD j 0, 0, none⟩), .int .i64 zc] wr fun e w' => e = .returned (.bool true) ∧ w' = wr.setCell ⟨gs.getD j 0, 1, none⟩ (.int .i64 zc) := fun h h2 => by
              rw [h] at htk
              exact call_set zc htk h2
            clear htk hrest
            have HSet := Lib.hid hset
            have HNo := Lib.hid hno
            have HYes := Lib.hid hyes
            clear hset hno hyes
            generalize gs.getD j 0 = gj at *
            generalize cs.getD j 0 = cj at *
            by_cases h0 : cj = 0
            · subst h0
              by_cases h1 : zc = 0
              · subst h1
                have HC := Lib.hid (HNo.out (.inr rfl))
                go_wp2_with fail
                refine HC.out.mono ?_
                rintro e w2 ⟨rfl, rfl⟩
                go_wp2
                go_meet
                exact ⟨gs, ps, cs, _, _, HH.out.1, by omega, hg0, HH.out.2.1, HH.out.2.2⟩
              · have h1b : (zc == 0) = false := by simpa using h1
                have h1c : (zc != 0) = true := by simpa using h1
                have HC := Lib.hid (HYes.out rfl h1)
                obtain ⟨_, hF', hBe, hSz, g1, g2, g3⟩ := HSet.out h1 rfl
                have HF := Lib.hid (And.intro hF' (And.intro hBe hSz))
                have G := Lib.hid (And.intro g1 (And.intro g2 g3))
                clear hF' hBe hSz g1 g2 g3 h1 HSet HNo HYes
                go_wp2_with fail
                refine HC.out.mono ?_
                rintro e w2 ⟨rfl, rfl⟩
                obtain ⟨g1, g2, g3⟩ := G.out
                clear c1 y0 y1
                generalize wr.setCell ⟨gj, 1, none⟩ (.int .i64 zc) = w2 at *
                go_wp2
                go_meet
                exact ⟨gs, ps, _, _, _, HF.out.1, by omega, hg0, HF.out.2.1, HF.out.2.2⟩
            · have h0b : (cj == 0) = false := by simpa using h0
              have HC := Lib.hid (HNo.out (.inl h0))
              clear h0
              go_wp2_with fail
              refine HC.out.mono ?_
              rintro e w2 ⟨rfl, rfl⟩
              go_wp2
              go_meet
              exact ⟨gs, ps, cs, _, _, HH.out.1, by omega, hg0, HH.out.2.1, HH.out.2.2⟩
      case rest =>
        obtain ⟨gs2, ps2, cs2, p2, o2, hF2, hgl2, hg02, hB2, hz2⟩ := hcut
        obtain ⟨A2, c2, rfl⟩ := own_form hF2.row
        have H2 := Lib.hid (And.intro hF2 (And.intro hB2 hz2))
        clear hF2 hB2 hz2 HH x2
        have hg2 : (gs2.length : Int) ≤ 100 := by omega
        go_wp2
        go_loopw [9] (fun i wx => wx = wc ∧ ∃ m : Nat, i = .int .i64 (m : Int) ∧ m ≤ gs2.length) (fun i _ => gs2.length - (intOf i).toNat)
        case atStart => exact ⟨rfl, 0, rfl, Nat.zero_le _⟩
        case round =>
          obtain ⟨rfl, m, rfl, hm⟩ := hrel
          by_cases hml : m < gs2.length
          · obtain ⟨u2, rfl, _⟩ := own_at H2.out.1.row (by omega)
            have v0 := (H2.out.1.row.cellAt m (by omega)).trans (ptrs_at gs2 m hml)
            have hRf := ref_reason H2.out.1 (by omega) m hml
            have hRe := reason_any (H2.out.1.tk m hml)
            have hOf := off_any (H2.out.1.tk m hml)
            generalize gs2.getD m 0 = gm at v0 hRe hOf
            generalize first (ch ps2 cs2 m) = fr at hRf hRe hOf
            have HRf := Lib.hid hRf
            have HRe := Lib.hid hRe
            have HOf := Lib.hid hOf
            clear hRf hRe hOf
            have hm0 : (0 : Int) ≤ (m : Int) := by omega
            have hm1 : (m : Int) < (gs2.length : Int) := by omega
            go_wp2_with (first
              | (go_at_call 26; (refine HRf.out.mono ?_; rintro e w' ⟨rfl, rfl⟩))
              | (go_at_call 27; (refine HRe.out.mono ?_; rintro e w' ⟨rfl, rfl⟩))
              | (go_at_call 28; (refine HOf.out.mono ?_; rintro e w' ⟨rfl, rfl⟩)))
            exact ⟨⟨trivial, m + 1, by go_num, by omega⟩, by simp [intOf]; omega⟩
          · obtain rfl : m = gs2.length := by omega
            go_wp2
            exact ⟨⟨k + 1, by go_num, by omega, gs2, ps2, cs2, p2, o2, H2.out.1, by omega, hg02, H2.out.2.1, H2.out.2.2⟩, by simp [intOf]; omega⟩
    · have hke : k = len := by omega
      subst hke
      clear hlt HR
      go_wp2
      go_loopw [11] (fun i wx => wx = wr ∧ ∃ m : Nat, i = .int .i64 (m : Int) ∧ m ≤ gs.length) (fun i _ => gs.length - (intOf i).toNat)
      case atStart => exact ⟨rfl, 0, rfl, Nat.zero_le _⟩
      case round =>
        obtain ⟨rfl, m, rfl, hm⟩ := hrel
        by_cases hml : m < gs.length
        · obtain ⟨u2, rfl, _⟩ := own_at HH.out.1.row (by omega)
          have v0 := (HH.out.1.row.cellAt m (by omega)).trans (ptrs_at gs m hml)
          have hRf := ref_depth HH.out.1 (by omega) m hml
          have htk := HH.out.1.tk m hml
          obtain ⟨r, hr⟩ := ch_cons ps cs m
          have hlen : (ch ps cs m).length ≤ m + 1 := chain_len ps cs _ _
          rw [hr] at hRf htk hlen
          simp at hlen
          have hRe := depth_any htk (by omega)
          rw [List.length_cons, Nat.add_sub_cancel] at hRf
          generalize gs.getD m 0 = gm at v0 hRe
          have HRf := Lib.hid hRf
          have HRe := Lib.hid hRe
          clear hRf hRe htk hr
          have hm0 : (0 : Int) ≤ (m : Int) := by omega
          have hm1 : (m : Int) < (gs.length : Int) := by omega
          go_wp2_with (first
            | (go_at_call 30; (refine HRf.out.mono ?_; rintro e w' ⟨rfl, rfl⟩))
            | (go_at_call 29; (refine HRe.out.mono ?_; rintro e w' ⟨rfl, rfl⟩)))
          exact ⟨⟨trivial, m + 1, by go_num, by omega⟩, by simp [intOf]; omega⟩
        · obtain rfl : m = gs.length := by omega
          go_wp2_with fail
          refine (awake_any _).mono ?_
          rintro e w2 ⟨rfl, hb⟩
          go_wp2
          go_ret
          exact ⟨rfl, HH.out.2.1.trans (hb.mono HH.out.2.2)⟩
end Go.Proofs.Yticcobciafbleaa.tokenPlays
