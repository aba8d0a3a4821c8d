/- The page's Get of transactions. -/
import Derived.Test.YtfalmebgjghjeabPgMTake
import Derived.Test.YtfalmebgjghjeabTxnGet
import Derived.Test.YtfalmebgjghjeabTxRightRef
import Derived.Deep.RegionHeld3
namespace Go.Proofs.Ytfalmebgjghjeab.Rd
open Go Go.RowKit Num Texts Packet
open Msg (M7 mevs mevs_snoc own_formN txright rtxright_any cells7_new)

theorem R2.num_bad (r : R2) (m : Nat) (h : (r.num m).2.b ≠ 0) : (r.num m).1 = 0 := by
  unfold R2.num at h ⊢
  split
  · rename_i hb
    rw [if_pos hb] at h
    unfold numR at h ⊢
    split
    · rfl
    · rename_i h0
      rw [if_neg h0] at h
      dsimp only at h ⊢
      split
      · rfl
      · rename_i h1
        rw [if_neg h1] at h
        split
        · rfl
        · rename_i h2
          rw [if_neg h2] at h
          split
          · rfl
          · rename_i h3
            rw [if_neg h3] at h
            exact absurd rfl h
  · rfl
theorem res_pget (tmps : Array Value) (w : World) (g : Nat) (C : Array Value) (n : Int) (hz : C.size = 4) (hp : tmps.getD 2 undef = .pointer (some ⟨g, 0, none⟩)) (h3 : tmps.getD 3 undef = .int .i64 n)
    (hg : w.heap[g]? = some (.cells C 34 (0, 0))) : (results Try.f13 tmps).run Try.prog w = .ok (.tuple #[.agg C, .int .i64 n]) w := by
  have hp' : tmps[2]?.getD undef = .pointer (some ⟨g, 0, none⟩) := by simpa using hp
  have h3' : tmps[3]?.getD undef = .int .i64 n := by simpa using h3
  simp [results, Try.results13, hp', h3', asAddr, run_loadVar_row w g 34 34 C (0, 0) _ hg Try.underlying34 rfl (i4 C hz)]
theorem own_only' {R base e n size : Nat} {w w' : World} {v : Value} {xs : List Value} {cs : Array Value} {T : TypeId} (h : w.ownsRow base e size v n xs) (hO : Only R w w') (hT : w.heap[R]? = some (.cells cs T (0, 0))) (hne : T ≠ e) : w'.ownsRow base e size v n xs :=
  Msg.own_apart h (row := some R) (.inr (fun hv => by
    obtain ⟨_, _, ho⟩ := Msg.own_blk_type h hv hT
    injection ho with _ h2 _
    exact hne h2)) hO.grown
theorem msgsR_stop (n : Nat) (r : R2) (hn : n = 0) : msgsR n r = ([], r) := by subst hn; rfl

set_option maxRecDepth 20000 in
set_option maxHeartbeats 8000000 in
theorem pget_any (s : ByteArray) (hs : s.size ≤ 1099511627776) (W : World) :
    Calls Try.prog 13 #[.string s] W fun e w' => (∃ v, e = .returned (.tuple #[.agg #[.int .i64 ((getT s).1.1 : Int), .int .i64 ((getT s).1.2.1 : Int), .int .u64 ((getT s).1.2.2.1 : Int), v], .int .i64 (getT s).2]) ∧ w'.ownsRow W.heap.size 50 7 v (getT s).1.2.2.2.length (mevs (getT s).1.2.2.2)) ∧ Below W.heap.size W w' := by
  obtain ⟨i1, hinf, hy0, hy1, hy2⟩ := info_parts Msg.infoM
  have hg : getT s = if (R2.mk s 0).txn.2.end' ≠ 0 then ((0, 0, 0, []), (R2.mk s 0).txn.2.end') else if txright ((R2.mk s 0).txn.1.1 : Int) ((R2.mk s 0).txn.1.2.1 : Int) (R2.mk s 0).txn.1.2.2.2 then ((R2.mk s 0).txn.1, 0) else ((0, 0, 0, []), 3) := rfl
  have hpk : (R2.mk s 0).txn = (let a := (R2.mk s 0).num 1
    let b := a.2.num 4
    let c := b.2.num 18446744073709551615
    let d := c.2.num 8
    let q := msgsR d.1 d.2
    ((a.1, b.1, c.1, q.1), q.2)) := rfl
  generalize getT s = G at hg ⊢
  generalize (R2.mk s 0).txn = X at hg hpk
  have HG := Lib.hid hg
  have HP := Lib.hid hpk
  clear hg hpk
  obtain ⟨r, hr⟩ : ∃ r, r = R2.mk s 0 := ⟨_, rfl⟩
  rw [← hr] at HP
  have hok0 : r.okay := by rw [hr]; intro h; exact absurd rfl h
  obtain ⟨W0, hW0⟩ : ∃ X, X = ((W.alloc (.cells #[.int .i64 0, .int .i64 0, .int .u64 0, .slice none 0 0] 34)).alloc (.cells #[.string s, .int .i64 0, .int .i64 0] 39)).alloc (.cells #[.int .i64 0, .int .i64 0, .int .u64 0, .slice none 0 0] 34) := ⟨_, rfl⟩
  have hA : W0.heap[W.heap.size]? = some (.cells #[.int .i64 0, .int .i64 0, .int .u64 0, .slice none 0 0] 34 (0, 0)) := by
    rw [hW0, Below.heap_alloc _ _ _ (by simp; omega), Below.heap_alloc _ _ _ (by simp)]; exact heap_alloc_new _ _
  have hR0 : PLies W0 (W.heap.size + 1) s r := ⟨0, Nat.zero_le _, by rw [hr]; show s = s.extract 0 s.size; rw [ByteArray.extract_zero_size], by
    have h1 := heap_alloc_new (W.alloc (.cells #[.int .i64 0, .int .i64 0, .int .u64 0, .slice none 0 0] 34)) (.cells #[.string s, .int .i64 0, .int .i64 0] 39)
    rw [hW0, hr]
    show (World.heap _)[_]? = _
    rw [Below.heap_alloc _ _ _ (by simp)]
    simpa using h1⟩
  have hB : W0.heap[W.heap.size + 2]? = some (.cells #[.int .i64 0, .int .i64 0, .int .u64 0, .slice none 0 0] 34 (0, 0)) := by
    have h1 := heap_alloc_new ((W.alloc (.cells #[.int .i64 0, .int .i64 0, .int .u64 0, .slice none 0 0] 34)).alloc (.cells #[.string s, .int .i64 0, .int .i64 0] 39)) (.cells #[.int .i64 0, .int .i64 0, .int .u64 0, .slice none 0 0] 34)
    rw [hW0]; simpa using h1
  have hO : Below W.heap.size W W0 := by rw [hW0]; exact (((Below.refl _ _).alloc (Nat.le_refl _) _).alloc (by simp) _).alloc (by simp; omega) _
  have H0 := Lib.hid hA
  have HB0 := Lib.hid hB
  have HO0 := Lib.hid hO
  have HR0 := Lib.hid hR0
  clear hA hB hO hR0 hr
  go_enter Try.func13, Try.ntmps13
  go_upto_region 3 with fail
  obtain ⟨H, hH⟩ : ∃ H, H = W.heap.size := ⟨_, rfl⟩
  obtain ⟨R, hRe⟩ : ∃ R, R = W.heap.size + 1 := ⟨_, rfl⟩
  obtain ⟨B, hBe⟩ : ∃ B, B = W.heap.size + 2 := ⟨_, rfl⟩
  have e2 : W.heap.size + 1 + 1 = B := by omega
  try rw [e2]
  rw [← hW0]
  try rw [← hBe]
  rw [← hRe, ← hH]
  rw [← hBe] at HB0
  rw [← hRe] at HR0
  rw [← hH] at H0 HO0
  have hHR : H < R := by omega
  have hRB : R < B := by omega
  have hHB : H < B := by omega
  have HH := Lib.hid hH
  clear hW0 e2 hBe hRe hH
  go_wp2_with fail
  refine (pnum_any R s r 1 hs _ HR0.out).mono ?_
  rintro _ w1 ⟨rfl, hR, hO⟩
  have hA := (hO.block _ (Array.getElem?_eq_some_iff.1 H0.out).1 (by omega)).trans H0.out
  have hB := (hO.block _ (Array.getElem?_eq_some_iff.1 HB0.out).1 (by omega)).trans HB0.out
  have hOO := Only.below HO0.out hO (by omega) (by rw [HH.out]; exact HO0.out.size)
  have hn0 : (r.num 1).1 ≤ 1 := R2.num_val _ _
  have hok1 := R2.num_okay r 1 hok0
  generalize r.num 1 = x at *
  obtain ⟨n0, r1⟩ := x
  dsimp only at *
  have hi0 : (n0 : Int) ≤ 1 := by omega
  have cB : w1.cell? ⟨B, 0, none⟩ = some (.int .i64 0) := cell_at hB 0
  have fB := free_at hB 0
  have hRn := hR.off (i := 0) (show R ≠ B by omega) (.int .i64 (n0 : Int))
  have hAn := set_off (i := 0) hA (show H ≠ B by omega) (.int .i64 (n0 : Int))
  have hBn := set_at hB 0 (.int .i64 (n0 : Int))
  have hOn := hOO.setCell (p := ⟨B, 0, none⟩) (by show H ≤ B; omega) (.int .i64 (n0 : Int))
  obtain ⟨V1, hV⟩ : ∃ X, X = w1.setCell ⟨B, 0, none⟩ (.int .i64 (n0 : Int)) := ⟨_, rfl⟩
  rw [← hV] at hRn hAn hBn hOn
  have HR1 := Lib.hid hRn
  have H1 := Lib.hid hAn
  have HB1 := Lib.hid (show V1.heap[B]? = some (.cells #[.int .i64 (n0 : Int), .int .i64 0, .int .u64 0, .slice none 0 0] 34 (0, 0)) from hBn)
  have HO1 := Lib.hid hOn
  have HV := Lib.hid hV
  clear hR hA hB hOO hO hRn hAn hBn hOn hV HR0 H0 HB0 HO0
  go_upto_region 4 with fail
  rw [← HV.out]
  clear HV cB fB
  go_wp2_with fail
  refine (pnum_any R s r1 4 hs _ HR1.out).mono ?_
  rintro _ w2 ⟨rfl, hR, hO⟩
  have hA := (hO.block _ (Array.getElem?_eq_some_iff.1 H1.out).1 (by omega)).trans H1.out
  have hB := (hO.block _ (Array.getElem?_eq_some_iff.1 HB1.out).1 (by omega)).trans HB1.out
  have hOO := Only.below HO1.out hO (by omega) (by rw [HH.out]; exact HO1.out.size)
  have hn1 : (r1.num 4).1 ≤ 4 := R2.num_val _ _
  have hok2 := R2.num_okay r1 4 hok1
  generalize r1.num 4 = x at *
  obtain ⟨n1, r2⟩ := x
  dsimp only at *
  have hi1 : (n1 : Int) ≤ 4 := by omega
  have cB : w2.cell? ⟨B, 1, none⟩ = some (.int .i64 0) := cell_at hB 1
  have fB := free_at hB 1
  have hRn := hR.off (i := 1) (show R ≠ B by omega) (.int .i64 (n1 : Int))
  have hAn := set_off (i := 1) hA (show H ≠ B by omega) (.int .i64 (n1 : Int))
  have hBn := set_at hB 1 (.int .i64 (n1 : Int))
  have hOn := hOO.setCell (p := ⟨B, 1, none⟩) (by show H ≤ B; omega) (.int .i64 (n1 : Int))
  obtain ⟨V2, hV⟩ : ∃ X, X = w2.setCell ⟨B, 1, none⟩ (.int .i64 (n1 : Int)) := ⟨_, rfl⟩
  rw [← hV] at hRn hAn hBn hOn
  have HR2 := Lib.hid hRn
  have H2 := Lib.hid hAn
  have HB2 := Lib.hid (show V2.heap[B]? = some (.cells #[.int .i64 (n0 : Int), .int .i64 (n1 : Int), .int .u64 0, .slice none 0 0] 34 (0, 0)) from hBn)
  have HO2 := Lib.hid hOn
  have HV := Lib.hid hV
  clear hR hA hB hOO hO hRn hAn hBn hOn hV HR1 H1 HB1 HO1
  go_upto_region 5 with fail
  rw [← HV.out]
  clear HV cB fB
  go_wp2_with fail
  refine (pnum_any R s r2 18446744073709551615 hs _ HR2.out).mono ?_
  rintro _ w3 ⟨rfl, hR, hO⟩
  have hA := (hO.block _ (Array.getElem?_eq_some_iff.1 H2.out).1 (by omega)).trans H2.out
  have hB := (hO.block _ (Array.getElem?_eq_some_iff.1 HB2.out).1 (by omega)).trans HB2.out
  have hOO := Only.below HO2.out hO (by omega) (by rw [HH.out]; exact HO2.out.size)
  have hn2 : (r2.num 18446744073709551615).1 ≤ 18446744073709551615 := R2.num_val _ _
  have hok3 := R2.num_okay r2 18446744073709551615 hok2
  generalize r2.num 18446744073709551615 = x at *
  obtain ⟨n2, r3⟩ := x
  dsimp only at *
  have cB : w3.cell? ⟨B, 2, none⟩ = some (.int .u64 0) := cell_at hB 2
  have fB := free_at hB 2
  have hRn := hR.off (i := 2) (show R ≠ B by omega) (.int .u64 (n2 : Int))
  have hAn := set_off (i := 2) hA (show H ≠ B by omega) (.int .u64 (n2 : Int))
  have hBn := set_at hB 2 (.int .u64 (n2 : Int))
  have hOn := hOO.setCell (p := ⟨B, 2, none⟩) (by show H ≤ B; omega) (.int .u64 (n2 : Int))
  obtain ⟨V3, hV⟩ : ∃ X, X = w3.setCell ⟨B, 2, none⟩ (.int .u64 (n2 : Int)) := ⟨_, rfl⟩
  rw [← hV] at hRn hAn hBn hOn
  have HR3 := Lib.hid hRn
  have H3 := Lib.hid hAn
  have HB3 := Lib.hid (show V3.heap[B]? = some (.cells #[.int .i64 (n0 : Int), .int .i64 (n1 : Int), .int .u64 (n2 : Int), .slice none 0 0] 34 (0, 0)) from hBn)
  have HO3 := Lib.hid hOn
  have HV := Lib.hid hV
  clear hR hA hB hOO hO hRn hAn hBn hOn hV HR2 H2 HB2 HO2
  go_upto_region 6 with fail
  rw [← HV.out]
  clear HV cB fB
  go_wp2_with fail
  refine (pnum_any R s r3 8 hs _ HR3.out).mono ?_
  rintro _ w4 ⟨rfl, hR, hO⟩
  have hA := (hO.block _ (Array.getElem?_eq_some_iff.1 H3.out).1 (by omega)).trans H3.out
  have hB := (hO.block _ (Array.getElem?_eq_some_iff.1 HB3.out).1 (by omega)).trans HB3.out
  have hOO := Only.below HO3.out hO (by omega) (by rw [HH.out]; exact HO3.out.size)
  have hn3 : (r3.num 8).1 ≤ 8 := R2.num_val _ _
  have hok4 := R2.num_okay r3 8 hok3
  have hbad := R2.num_bad r3 8
  generalize r3.num 8 = x at *
  obtain ⟨n, r4⟩ := x
  dsimp only at *
  have hni : (n : Int) ≤ 8 := by omega
  have HR4 := Lib.hid hR
  have HA4 := Lib.hid hA
  have HB4 := Lib.hid hB
  have HO4 := Lib.hid hOO
  have HBad := Lib.hid hbad
  clear hO H3 HB3 HO3 HR3 hR hA hB hOO hbad
  go_wp2_with fail
  go_loopw [7] (fun i wr => ∃ (k : Nat) (ms : List M7) (rk : R2) (v : Value), i = .int .i64 (k : Int) ∧ k ≤ n ∧ ms.length = k ∧ Hid ((rk.b = 0 ∧ msgsR n r4 = (ms ++ (msgsR (n - k) rk).1, (msgsR (n - k) rk).2)) ∨ (rk.b ≠ 0 ∧ (msgsR n r4).2 = rk)) ∧ rk.okay ∧ PLies wr R s rk ∧ wr.heap[H]? = some (.cells #[.int .i64 0, .int .i64 0, .int .u64 0, .slice none 0 0] 34 (0, 0)) ∧ wr.heap[B]? = some (.cells #[.int .i64 (n0 : Int), .int .i64 (n1 : Int), .int .u64 (n2 : Int), v] 34 (0, 0)) ∧ wr.ownsRow H 50 7 v k (mevs ms) ∧ Below H W wr) (fun i _ => n - (intOf i).toNat)
  case atStart =>
    refine ⟨0, [], r4, .slice none 0 0, rfl, Nat.zero_le _, rfl, Lib.hid ?_, hok4, HR4.out, HA4.out, HB4.out, World.ownsRow_nil _ _ _ _, HO4.out⟩
    by_cases hb : r4.b = 0
    · exact .inl ⟨hb, rfl⟩
    · exact .inr ⟨hb, by rw [msgsR_stop n r4 (HBad.out hb)]⟩
  case round =>
    obtain ⟨k, ms, rk, v, rfl, hk, hml, hmr, hokk, hRk, hAk, hBk, hown, hOk⟩ := hrel
    obtain ⟨A1, c1, rfl⟩ := own_formN hown
    have HR := Lib.hid hRk
    have HA := Lib.hid hAk
    have HB := Lib.hid hBk
    have HW := Lib.hid hown
    have HO := Lib.hid hOk
    have HML := Lib.hid hml
    have c2 : wr.cell? ⟨R, 2, none⟩ = some (.int .i64 rk.b) := hRk.err
    have hk0 : (0 : Int) ≤ (k : Int) := by omega
    clear hRk hAk hBk hown hOk HR4 HA4 HB4 HO4 HBad hml
    by_cases hb : rk.b = 0
    · rw [hb] at c2
      have hgo : msgsR n r4 = (ms ++ (msgsR (n - k) rk).1, (msgsR (n - k) rk).2) := by
        rcases hmr.out with h | h
        · exact h.2
        · exact absurd hb h.1
      have HM := Lib.hid hgo
      clear hmr hgo
      by_cases hlt : k < n
      · have hki : (k : Int) < (n : Int) := by omega
        have hnk : n - k = (n - (k + 1)) + 1 := by omega
        have hstep : msgsR (n - k) rk = if rk.msg.2.failed then ([], rk.msg.2) else (rk.msg.1 :: (msgsR (n - (k + 1)) rk.msg.2).1, (msgsR (n - (k + 1)) rk.msg.2).2) := by rw [hnk]; rfl
        have hok5 := R2.msg_okay rk hokk
        have hff := R2.failed_iff rk.msg.2 hok5
        have hpt := fun V (h : PLies V R s rk) => pmtake_any R s rk hokk hs V h
        generalize rk.msg = x at hstep hok5 hff hpt
        obtain ⟨m, r5⟩ := x
        dsimp only at hstep hok5 hff hpt
        have HPt := Lib.hid hpt
        have HStep := Lib.hid (And.intro hstep hff)
        clear hstep hff hpt
        go_upto_region 10 with fail
        have c3 : wr.drew.cell? ⟨B, 3, none⟩ = some (.slice A1 k c1) := cell_at (w := wr.drew) HB.out 3
        refine wp_region_held_drew (S := fun _ => True) (by kernel_rfl) trivial (fun _ => ?_)
        refine wpAnyH_take (i := 0) (oi := _) (v := ?_) rfl (by kernel_rfl) (by kernel_rfl) (by kernel_rfl) (fun _ _ _ h => h) (Or.inl ⟨by rfl, ?_⟩) (by assumption) ?_
        rotate_left
        · (intro W hSw; (try dsimp only at hSw); go_simp; try with_reducible rfl)
        try simp only [Act.put, List.getElem_toArray, List.getElem_cons_zero, List.setIfInBounds_toArray, List.set_cons_zero, List.set_cons_succ]
        refine wpAnyH_take (i := 2) (oi := _) (v := ?_) rfl (by kernel_rfl) (by kernel_rfl) (by kernel_rfl) (fun _ _ _ h => h) (Or.inl ⟨by rfl, ?_⟩) (by assumption) ?_
        rotate_left
        · (intro W hSw; (try dsimp only at hSw); go_simp; try with_reducible rfl)
        try simp only [Act.put, List.getElem_toArray, List.getElem_cons_succ, List.getElem_cons_zero, List.setIfInBounds_toArray, List.set_cons_zero, List.set_cons_succ]
        refine wpAnyH_ready (rs := [1, 3]) (by kernel_rfl) (by simp) ?_
        refine AllReadyH.cons rfl (fun K hK => ?_) (AllReadyH.cons rfl (fun K hK => ?_) AllReadyH.nil)
        · skip
          simp only [List.getElem_toArray, List.getElem_cons_succ, List.getElem_cons_zero]
          rw [if_pos (by rfl)]
          go_simp
          refine hK.out _ _ trivial (fun _ => ?_)
          clear hK K
          try simp only [Act.put, List.getElem_toArray, List.getElem_cons_succ, List.getElem_cons_zero, List.setIfInBounds_toArray, List.set_cons_zero, List.set_cons_succ]
          refine wpAnyH_ready (rs := [3]) (by kernel_rfl) (by simp) ?_
          refine AllReadyH.cons rfl (fun K hK => ?_) AllReadyH.nil
          simp only [List.getElem_toArray, List.getElem_cons_succ, List.getElem_cons_zero]
          rw [if_pos (by rfl)]
          go_simp
          (go_at_call 28; refine (HPt.out wr.drew HR.out).mono ?_; rintro _ w5 ⟨rfl, hR5, hO5⟩)
          unfold Msg.M7.cells
          have hplc : PLies wr.drew R s rk := HR.out
          have hA5 := (hO5.block _ (Array.getElem?_eq_some_iff.1 HA.out).1 (by omega)).trans HA.out
          have hB5 := (hO5.block _ (Array.getElem?_eq_some_iff.1 HB.out).1 (by omega)).trans HB.out
          have hW5 := own_only' HW.out.drew hO5 (Classical.choose_spec hplc).2.2 (by decide)
          have hOO5 := Only.below HO.out.drew hO5 (by omega) (by show H ≤ _; rw [HH.out]; exact HO.out.size)
          have HR := Lib.hid hR5
          have HA := Lib.hid hA5
          have HB := Lib.hid hB5
          have HW := Lib.hid hW5
          have HO := Lib.hid hOO5
          have c3 : w5.cell? ⟨B, 3, none⟩ = some (.slice A1 k c1) := cell_at HB.out 3
          clear hR5 hA5 hB5 hW5 hOO5 hO5
          go_wp2_with fail
          refine hK.out _ _ trivial (fun _ => ?_)
          clear hK K
          try simp only [Act.put, List.getElem_toArray, List.getElem_cons_succ, List.getElem_cons_zero, List.setIfInBounds_toArray, List.set_cons_zero, List.set_cons_succ]
          refine wpAnyH_ready (rs := [4]) (by kernel_rfl) (by simp) ?_
          refine AllReadyH.cons rfl (fun K hK => ?_) AllReadyH.nil
          simp only [List.getElem_toArray, List.getElem_cons_succ, List.getElem_cons_zero]
          rw [if_pos (by rfl)]
          go_simp
          refine hK.out _ _ trivial (fun _ => ?_)
          clear hK K
          try simp only [Act.put, List.getElem_toArray, List.getElem_cons_succ, List.getElem_cons_zero, List.setIfInBounds_toArray, List.set_cons_zero, List.set_cons_succ]
          refine wpAnyH_ready (rs := [5]) (by kernel_rfl) (by simp) ?_
          refine AllReadyH.cons rfl (fun K hK => ?_) AllReadyH.nil
          simp only [List.getElem_toArray, List.getElem_cons_succ, List.getElem_cons_zero]
          rw [if_pos (by rfl)]
          (refine wp_append_lies _ _ _ _ (by rfl) H 50 i1 _ 7 72 Try.underlying32 hinf hy0 hy1 hy2 rfl (by decide) _ _ _ (by rfl) (HW.out.alloc _) ⟨w5.heap.size, 0, none⟩ 1 1 m.cells.toList (by rfl) rfl (cells7_new w5 m _) (Msg.cells7_one m) (by decide) (by unfold maxLen; omega) (by omega) (by have := HO.out.size; rw [HH.out]; simp; omega) (w5.heap.size + 1) (by simp) ?_; intro gg cap2 w6 hown6 hg6 hat6 _)
          have hwa := HW.out.alloc (.cells m.cells 50)
          have hA6 := grown_off ((Below.heap_alloc _ _ _ (Array.getElem?_eq_some_iff.1 HA.out).1).trans HA.out) hg6 hwa (by decide)
          have hB6 := grown_off ((Below.heap_alloc _ _ _ (Array.getElem?_eq_some_iff.1 HB.out).1).trans HB.out) hg6 hwa (by decide)
          have hR6 : PLies w6 R s r5 := by
            obtain ⟨a3, ha3, hse3, hpl3⟩ := HR.out
            exact ⟨a3, ha3, hse3, grown_off ((Below.heap_alloc _ _ _ (Array.getElem?_eq_some_iff.1 hpl3).1).trans hpl3) hg6 hwa (by decide)⟩
          have hO6 : Below H W w6 := (HO.out.alloc (by have := HO.out.size; have := HH.out; omega) _).grown hg6 (by have := HO.out.size; have := HH.out; simp; omega) (fun k hk => own_ge hwa hk)
          have hB3 : w6.cell? ⟨B, 3, none⟩ = some (.slice A1 k c1) := cell_at hB6 3
          have fB3 := free_at hB6 3
          have hwn := Msg.own_setblk (i := 3) (u := .slice (some ⟨gg, 0, none⟩) (k + 1) cap2) hown6 hB6 (by decide)
          have HN := Lib.hid (And.intro hwn (And.intro (set_off (i := 3) hA6 (show H ≠ B by omega) (.slice (some ⟨gg, 0, none⟩) (k + 1) cap2)) (And.intro (set_at hB6 3 (.slice (some ⟨gg, 0, none⟩) (k + 1) cap2)) (And.intro (hR6.off (i := 3) (show R ≠ B by omega) (.slice (some ⟨gg, 0, none⟩) (k + 1) cap2)) (hO6.setCell (p := ⟨B, 3, none⟩) (by show H ≤ B; omega) (.slice (some ⟨gg, 0, none⟩) (k + 1) cap2))))))
          clear hA6 hB6 hR6 hO6 hown6 hwn hwa hg6 hat6
          refine hK.out _ _ trivial (fun _ => ?_)
          clear hK K
          try simp only [Act.put, List.setIfInBounds_toArray, List.set_cons_zero, List.set_cons_succ]
          refine wpAnyH_take (i := 6) (oi := _) (v := ?_) rfl (by kernel_rfl) (by kernel_rfl) (by kernel_rfl) (fun _ _ _ h => h) (Or.inl ⟨by rfl, ?_⟩) (by assumption) ?_
          rotate_left
          · (intro W hSw; (try dsimp only at hSw); go_simp; try with_reducible rfl)
          try simp only [Act.put, List.getElem_toArray, List.getElem_cons_succ, List.getElem_cons_zero, List.setIfInBounds_toArray, List.set_cons_zero, List.set_cons_succ]
          refine wpAnyH_ready (rs := [7]) (by kernel_rfl) (by simp) ?_
          refine AllReadyH.cons rfl (fun K hK => ?_) AllReadyH.nil
          simp only [List.getElem_toArray, List.getElem_cons_succ, List.getElem_cons_zero]
          rw [if_pos (by rfl)]
          go_simp
          refine hK.out _ _ trivial (fun _ => ?_)
          clear hK K
          try simp only [Act.put, List.getElem_toArray, List.getElem_cons_succ, List.getElem_cons_zero, List.setIfInBounds_toArray, List.set_cons_zero, List.set_cons_succ]
          refine wpAnyH_done (by kernel_rfl) ?_ _
          clear hB3 fB3 c2
          go_wp2_with fail
          refine ⟨⟨k + 1, ms ++ [m], r5, .slice (some ⟨gg, 0, none⟩) (k + 1) cap2, by go_num, by omega, by rw [List.length_append, HML.out]; rfl, Lib.hid ?_, hok5, HN.out.2.2.2.1, HN.out.2.1, HN.out.2.2.1, by rw [mevs_snoc]; exact HN.out.1, HN.out.2.2.2.2⟩, by simp [intOf]; omega⟩
          by_cases hb5 : r5.b = 0
          · refine .inl ⟨hb5, ?_⟩
            rw [HM.out, HStep.out.1, HStep.out.2, hb5, if_neg (by simp), List.append_assoc]; rfl
          · refine .inr ⟨hb5, ?_⟩
            have hbf : (r5.b == 0) = false := by simpa using hb5
            rw [HM.out, HStep.out.1, HStep.out.2, hbf, if_pos (by simp)]
        · skip
          simp only [List.getElem_toArray, List.getElem_cons_succ, List.getElem_cons_zero]
          rw [if_pos (by rfl)]
          go_simp
          (go_at_call 28; refine (HPt.out wr.drew HR.out).mono ?_; rintro _ w5 ⟨rfl, hR5, hO5⟩)
          unfold Msg.M7.cells
          have hplc : PLies wr.drew R s rk := HR.out
          have hA5 := (hO5.block _ (Array.getElem?_eq_some_iff.1 HA.out).1 (by omega)).trans HA.out
          have hB5 := (hO5.block _ (Array.getElem?_eq_some_iff.1 HB.out).1 (by omega)).trans HB.out
          have hW5 := own_only' HW.out.drew hO5 (Classical.choose_spec hplc).2.2 (by decide)
          have hOO5 := Only.below HO.out.drew hO5 (by omega) (by show H ≤ _; rw [HH.out]; exact HO.out.size)
          have HR := Lib.hid hR5
          have HA := Lib.hid hA5
          have HB := Lib.hid hB5
          have HW := Lib.hid hW5
          have HO := Lib.hid hOO5
          have c3 : w5.cell? ⟨B, 3, none⟩ = some (.slice A1 k c1) := cell_at HB.out 3
          clear hR5 hA5 hB5 hW5 hOO5 hO5
          go_wp2_with fail
          refine hK.out _ _ trivial (fun _ => ?_)
          clear hK K
          try simp only [Act.put, List.getElem_toArray, List.getElem_cons_succ, List.getElem_cons_zero, List.setIfInBounds_toArray, List.set_cons_zero, List.set_cons_succ]
          refine wpAnyH_ready (rs := [1, 4]) (by kernel_rfl) (by simp) ?_
          refine AllReadyH.cons rfl (fun K hK => ?_) (AllReadyH.cons rfl (fun K hK => ?_) AllReadyH.nil)
          · skip
            simp only [List.getElem_toArray, List.getElem_cons_succ, List.getElem_cons_zero]
            rw [if_pos (by rfl)]
            go_simp
            refine hK.out _ _ trivial (fun _ => ?_)
            clear hK K
            try simp only [Act.put, List.getElem_toArray, List.getElem_cons_succ, List.getElem_cons_zero, List.setIfInBounds_toArray, List.set_cons_zero, List.set_cons_succ]
            refine wpAnyH_ready (rs := [4]) (by kernel_rfl) (by simp) ?_
            refine AllReadyH.cons rfl (fun K hK => ?_) AllReadyH.nil
            simp only [List.getElem_toArray, List.getElem_cons_succ, List.getElem_cons_zero]
            rw [if_pos (by rfl)]
            go_simp
            refine hK.out _ _ trivial (fun _ => ?_)
            clear hK K
            try simp only [Act.put, List.getElem_toArray, List.getElem_cons_succ, List.getElem_cons_zero, List.setIfInBounds_toArray, List.set_cons_zero, List.set_cons_succ]
            refine wpAnyH_ready (rs := [5]) (by kernel_rfl) (by simp) ?_
            refine AllReadyH.cons rfl (fun K hK => ?_) AllReadyH.nil
            simp only [List.getElem_toArray, List.getElem_cons_succ, List.getElem_cons_zero]
            rw [if_pos (by rfl)]
            (refine wp_append_lies _ _ _ _ (by rfl) H 50 i1 _ 7 72 Try.underlying32 hinf hy0 hy1 hy2 rfl (by decide) _ _ _ (by rfl) (HW.out.alloc _) ⟨w5.heap.size, 0, none⟩ 1 1 m.cells.toList (by rfl) rfl (cells7_new w5 m _) (Msg.cells7_one m) (by decide) (by unfold maxLen; omega) (by omega) (by have := HO.out.size; rw [HH.out]; simp; omega) (w5.heap.size + 1) (by simp) ?_; intro gg cap2 w6 hown6 hg6 hat6 _)
            have hwa := HW.out.alloc (.cells m.cells 50)
            have hA6 := grown_off ((Below.heap_alloc _ _ _ (Array.getElem?_eq_some_iff.1 HA.out).1).trans HA.out) hg6 hwa (by decide)
            have hB6 := grown_off ((Below.heap_alloc _ _ _ (Array.getElem?_eq_some_iff.1 HB.out).1).trans HB.out) hg6 hwa (by decide)
            have hR6 : PLies w6 R s r5 := by
              obtain ⟨a3, ha3, hse3, hpl3⟩ := HR.out
              exact ⟨a3, ha3, hse3, grown_off ((Below.heap_alloc _ _ _ (Array.getElem?_eq_some_iff.1 hpl3).1).trans hpl3) hg6 hwa (by decide)⟩
            have hO6 : Below H W w6 := (HO.out.alloc (by have := HO.out.size; have := HH.out; omega) _).grown hg6 (by have := HO.out.size; have := HH.out; simp; omega) (fun k hk => own_ge hwa hk)
            have hB3 : w6.cell? ⟨B, 3, none⟩ = some (.slice A1 k c1) := cell_at hB6 3
            have fB3 := free_at hB6 3
            have hwn := Msg.own_setblk (i := 3) (u := .slice (some ⟨gg, 0, none⟩) (k + 1) cap2) hown6 hB6 (by decide)
            have HN := Lib.hid (And.intro hwn (And.intro (set_off (i := 3) hA6 (show H ≠ B by omega) (.slice (some ⟨gg, 0, none⟩) (k + 1) cap2)) (And.intro (set_at hB6 3 (.slice (some ⟨gg, 0, none⟩) (k + 1) cap2)) (And.intro (hR6.off (i := 3) (show R ≠ B by omega) (.slice (some ⟨gg, 0, none⟩) (k + 1) cap2)) (hO6.setCell (p := ⟨B, 3, none⟩) (by show H ≤ B; omega) (.slice (some ⟨gg, 0, none⟩) (k + 1) cap2))))))
            clear hA6 hB6 hR6 hO6 hown6 hwn hwa hg6 hat6
            refine hK.out _ _ trivial (fun _ => ?_)
            clear hK K
            try simp only [Act.put, List.setIfInBounds_toArray, List.set_cons_zero, List.set_cons_succ]
            refine wpAnyH_take (i := 6) (oi := _) (v := ?_) rfl (by kernel_rfl) (by kernel_rfl) (by kernel_rfl) (fun _ _ _ h => h) (Or.inl ⟨by rfl, ?_⟩) (by assumption) ?_
            rotate_left
            · (intro W hSw; (try dsimp only at hSw); go_simp; try with_reducible rfl)
            try simp only [Act.put, List.getElem_toArray, List.getElem_cons_succ, List.getElem_cons_zero, List.setIfInBounds_toArray, List.set_cons_zero, List.set_cons_succ]
            refine wpAnyH_ready (rs := [7]) (by kernel_rfl) (by simp) ?_
            refine AllReadyH.cons rfl (fun K hK => ?_) AllReadyH.nil
            simp only [List.getElem_toArray, List.getElem_cons_succ, List.getElem_cons_zero]
            rw [if_pos (by rfl)]
            go_simp
            refine hK.out _ _ trivial (fun _ => ?_)
            clear hK K
            try simp only [Act.put, List.getElem_toArray, List.getElem_cons_succ, List.getElem_cons_zero, List.setIfInBounds_toArray, List.set_cons_zero, List.set_cons_succ]
            refine wpAnyH_done (by kernel_rfl) ?_ _
            clear hB3 fB3 c2
            go_wp2_with fail
            refine ⟨⟨k + 1, ms ++ [m], r5, .slice (some ⟨gg, 0, none⟩) (k + 1) cap2, by go_num, by omega, by rw [List.length_append, HML.out]; rfl, Lib.hid ?_, hok5, HN.out.2.2.2.1, HN.out.2.1, HN.out.2.2.1, by rw [mevs_snoc]; exact HN.out.1, HN.out.2.2.2.2⟩, by simp [intOf]; omega⟩
            by_cases hb5 : r5.b = 0
            · refine .inl ⟨hb5, ?_⟩
              rw [HM.out, HStep.out.1, HStep.out.2, hb5, if_neg (by simp), List.append_assoc]; rfl
            · refine .inr ⟨hb5, ?_⟩
              have hbf : (r5.b == 0) = false := by simpa using hb5
              rw [HM.out, HStep.out.1, HStep.out.2, hbf, if_pos (by simp)]
          · skip
            simp only [List.getElem_toArray, List.getElem_cons_succ, List.getElem_cons_zero]
            rw [if_pos (by rfl)]
            go_simp
            refine hK.out _ _ trivial (fun _ => ?_)
            clear hK K
            try simp only [Act.put, List.getElem_toArray, List.getElem_cons_succ, List.getElem_cons_zero, List.setIfInBounds_toArray, List.set_cons_zero, List.set_cons_succ]
            have c3 : (w5.alloc (.cells m.cells 50)).cell? ⟨B, 3, none⟩ = some (.slice A1 k c1) := cell_at ((Below.heap_alloc _ _ _ (Array.getElem?_eq_some_iff.1 HB.out).1).trans HB.out) 3
            unfold Msg.M7.cells at c3
            refine wpAnyH_ready (rs := [1]) (by kernel_rfl) (by simp) ?_
            refine AllReadyH.cons rfl (fun K hK => ?_) AllReadyH.nil
            simp only [List.getElem_toArray, List.getElem_cons_succ, List.getElem_cons_zero]
            rw [if_pos (by rfl)]
            go_simp
            refine hK.out _ _ trivial (fun _ => ?_)
            clear hK K
            try simp only [Act.put, List.getElem_toArray, List.getElem_cons_succ, List.getElem_cons_zero, List.setIfInBounds_toArray, List.set_cons_zero, List.set_cons_succ]
            refine wpAnyH_ready (rs := [5]) (by kernel_rfl) (by simp) ?_
            refine AllReadyH.cons rfl (fun K hK => ?_) AllReadyH.nil
            simp only [List.getElem_toArray, List.getElem_cons_succ, List.getElem_cons_zero]
            rw [if_pos (by rfl)]
            (refine wp_append_lies _ _ _ _ (by rfl) H 50 i1 _ 7 72 Try.underlying32 hinf hy0 hy1 hy2 rfl (by decide) _ _ _ (by rfl) (HW.out.alloc _) ⟨w5.heap.size, 0, none⟩ 1 1 m.cells.toList (by rfl) rfl (cells7_new w5 m _) (Msg.cells7_one m) (by decide) (by unfold maxLen; omega) (by omega) (by have := HO.out.size; rw [HH.out]; simp; omega) (w5.heap.size + 1) (by simp) ?_; intro gg cap2 w6 hown6 hg6 hat6 _)
            have hwa := HW.out.alloc (.cells m.cells 50)
            have hA6 := grown_off ((Below.heap_alloc _ _ _ (Array.getElem?_eq_some_iff.1 HA.out).1).trans HA.out) hg6 hwa (by decide)
            have hB6 := grown_off ((Below.heap_alloc _ _ _ (Array.getElem?_eq_some_iff.1 HB.out).1).trans HB.out) hg6 hwa (by decide)
            have hR6 : PLies w6 R s r5 := by
              obtain ⟨a3, ha3, hse3, hpl3⟩ := HR.out
              exact ⟨a3, ha3, hse3, grown_off ((Below.heap_alloc _ _ _ (Array.getElem?_eq_some_iff.1 hpl3).1).trans hpl3) hg6 hwa (by decide)⟩
            have hO6 : Below H W w6 := (HO.out.alloc (by have := HO.out.size; have := HH.out; omega) _).grown hg6 (by have := HO.out.size; have := HH.out; simp; omega) (fun k hk => own_ge hwa hk)
            have hB3 : w6.cell? ⟨B, 3, none⟩ = some (.slice A1 k c1) := cell_at hB6 3
            have fB3 := free_at hB6 3
            have hwn := Msg.own_setblk (i := 3) (u := .slice (some ⟨gg, 0, none⟩) (k + 1) cap2) hown6 hB6 (by decide)
            have HN := Lib.hid (And.intro hwn (And.intro (set_off (i := 3) hA6 (show H ≠ B by omega) (.slice (some ⟨gg, 0, none⟩) (k + 1) cap2)) (And.intro (set_at hB6 3 (.slice (some ⟨gg, 0, none⟩) (k + 1) cap2)) (And.intro (hR6.off (i := 3) (show R ≠ B by omega) (.slice (some ⟨gg, 0, none⟩) (k + 1) cap2)) (hO6.setCell (p := ⟨B, 3, none⟩) (by show H ≤ B; omega) (.slice (some ⟨gg, 0, none⟩) (k + 1) cap2))))))
            clear hA6 hB6 hR6 hO6 hown6 hwn hwa hg6 hat6
            refine hK.out _ _ trivial (fun _ => ?_)
            clear hK K
            try simp only [Act.put, List.setIfInBounds_toArray, List.set_cons_zero, List.set_cons_succ]
            refine wpAnyH_take (i := 6) (oi := _) (v := ?_) rfl (by kernel_rfl) (by kernel_rfl) (by kernel_rfl) (fun _ _ _ h => h) (Or.inl ⟨by rfl, ?_⟩) (by assumption) ?_
            rotate_left
            · (intro W hSw; (try dsimp only at hSw); go_simp; try with_reducible rfl)
            try simp only [Act.put, List.getElem_toArray, List.getElem_cons_succ, List.getElem_cons_zero, List.setIfInBounds_toArray, List.set_cons_zero, List.set_cons_succ]
            refine wpAnyH_ready (rs := [7]) (by kernel_rfl) (by simp) ?_
            refine AllReadyH.cons rfl (fun K hK => ?_) AllReadyH.nil
            simp only [List.getElem_toArray, List.getElem_cons_succ, List.getElem_cons_zero]
            rw [if_pos (by rfl)]
            go_simp
            refine hK.out _ _ trivial (fun _ => ?_)
            clear hK K
            try simp only [Act.put, List.getElem_toArray, List.getElem_cons_succ, List.getElem_cons_zero, List.setIfInBounds_toArray, List.set_cons_zero, List.set_cons_succ]
            refine wpAnyH_done (by kernel_rfl) ?_ _
            clear hB3 fB3 c2
            go_wp2_with fail
            refine ⟨⟨k + 1, ms ++ [m], r5, .slice (some ⟨gg, 0, none⟩) (k + 1) cap2, by go_num, by omega, by rw [List.length_append, HML.out]; rfl, Lib.hid ?_, hok5, HN.out.2.2.2.1, HN.out.2.1, HN.out.2.2.1, by rw [mevs_snoc]; exact HN.out.1, HN.out.2.2.2.2⟩, by simp [intOf]; omega⟩
            by_cases hb5 : r5.b = 0
            · refine .inl ⟨hb5, ?_⟩
              rw [HM.out, HStep.out.1, HStep.out.2, hb5, if_neg (by simp), List.append_assoc]; rfl
            · refine .inr ⟨hb5, ?_⟩
              have hbf : (r5.b == 0) = false := by simpa using hb5
              rw [HM.out, HStep.out.1, HStep.out.2, hbf, if_pos (by simp)]
      · have hkn : k = n := by omega
        subst hkn
        have hki : ¬ (k : Int) < (k : Int) := by omega
        have HX : Hid (X = ((n0, n1, n2, ms), rk)) := Lib.hid (by
          rw [HP.out, HM.out, Nat.sub_self]
          show ((n0, n1, n2, ms ++ []), rk) = _
          rw [List.append_nil])
        clear HM HP hlt
        obtain ⟨e, hee⟩ : ∃ e, e = rk.end' := ⟨_, rfl⟩
        have he0 := fun V (h : PLies V R s rk) => pend_any R s rk hs V h
        rw [← hee] at he0
        have HE := Lib.hid he0
        have HEe := Lib.hid hee
        clear he0 hee
        go_wp2_with fail
        refine (HE.out _ HR.out).mono ?_
        rintro _ w5 ⟨rfl, hR5, hO5⟩
        have HA5 := Lib.hid ((hO5.block _ (Array.getElem?_eq_some_iff.1 HA.out).1 (by omega)).trans HA.out)
        have HB5 := Lib.hid ((hO5.block _ (Array.getElem?_eq_some_iff.1 HB.out).1 (by omega)).trans HB.out)
        have HO5 := Lib.hid (Only.below HO.out hO5 (by omega) (by rw [HH.out]; exact HO.out.size))
        have HW5 := Lib.hid (own_only' HW.out hO5 (Classical.choose_spec HR.out).2.2 (by decide))
        have HR5 := Lib.hid hR5
        clear hR5 hO5 HA HB HO HW HR c2
        by_cases he : e = 0
        · subst he
          have HTR := Lib.hid (fun V (h : Msg.Rd V A1 k ms) => rtxright_any (n0 : Int) (n1 : Int) (n2 : Int) A1 k c1 ms V h (by omega))
          obtain ⟨C, hC⟩ : ∃ C : Array Value, C = #[.int .i64 (n0 : Int), .int .i64 (n1 : Int), .int .u64 (n2 : Int), .slice A1 k c1] := ⟨_, rfl⟩
          have hz : C.size = 4 := by rw [hC]; rfl
          have ho : C.all (·.oneCell') = true := by rw [hC]; exact four_one _ _ _ _ _ _
          have hbc := HB5.out
          rw [← hC] at HTR hbc
          have HB5 := Lib.hid hbc
          have HCe := Lib.hid hC
          clear hC hbc
          go_upto_region 13 with fail
          refine wp_region_lit ?_
          refine wpList_load_row rfl 34 _ rfl B rfl 34 C (0, 0) _ HB5.out Try.underlying34 rfl (i4 _ hz) ?_
          refine wpList_step (fun K hK => ?_)
          go_simp
          refine (HTR.out _ (Msg.row_at HW5.out HML.out)).mono ?_
          rintro _ w6 ⟨rfl, b6⟩
          have HA6 := Lib.hid ((b6.block _ (Array.getElem?_eq_some_iff.1 HA5.out).1).trans HA5.out)
          have HB6 := Lib.hid ((b6.block _ (Array.getElem?_eq_some_iff.1 HB5.out).1).trans HB5.out)
          have HW6 := Lib.hid (own_below HW5.out b6)
          have HO6 := Lib.hid (HO5.out.trans (b6.mono (by rw [HH.out]; exact HO5.out.size)))
          clear b6 HA5 HB5 HW5 HO5 HR5
          refine hK _ _ ?_
          clear hK K
          cases hmr : txright (n0 : Int) (n1 : Int) ms with
          | true =>
            have HG2 : Hid (G = ((n0, n1, n2, ms), 0)) := Lib.hid (by rw [HG.out, HX.out]; dsimp only; rw [← HEe.out, if_neg (by simp), if_pos hmr])
            clear HG hmr HX
            go_upto_region 15 with fail
            refine wp_region_lit ?_
            refine wpList_load_row rfl 34 _ rfl B rfl 34 C (0, 0) _ HB6.out Try.underlying34 rfl (i4 _ hz) ?_
            refine wpList_store_rowTo rfl 34 _ _ rfl rfl H C rfl rfl 34 _ HA6.out (i4 _ hz) (by rw [hz]; rfl) ho ?_
            have HR' := setRow_heap w6 H _ C 34 (0, 0) HA6.out
            have hB9 : Below H W (w6.setRow H C) := ⟨HO6.out.os, HO6.out.tape, HO6.out.output, by simpa using HO6.out.size, fun i hi => (setRow_other _ _ _ _ (by omega)).trans (HO6.out.block i hi)⟩
            have HWr : (w6.setRow H C).ownsRow H 50 7 (.slice A1 k c1) k (mevs ms) := Msg.own_apart HW6.out (row := some H) (.inr (fun hv => by
              obtain ⟨_, _, ho⟩ := Msg.own_blk_type HW6.out hv HA6.out
              injection ho with _ h2 _
              exact absurd h2 (by decide))) ⟨rfl, rfl, rfl, by simp, fun j _ hne => setRow_other _ _ _ _ (fun e => hne (by rw [e]))⟩
            obtain ⟨W9, hW9⟩ : ∃ W9, W9 = w6.setRow H C := ⟨_, rfl⟩
            rw [← hW9] at HR' hB9 HWr ⊢
            clear hW9 HA6 HB6 HW6 HO6
            go_wp2_with fail
            rw [HH.out] at HR' hB9 HWr
            exact bodyPost_ret (res_pget _ _ W.heap.size C 0 hz (by rw [← HH.out]; rfl) rfl HR') rfl ⟨⟨_, by rw [HG2.out, HCe.out], by rw [HG2.out]; dsimp only; rw [HML.out]; exact HWr⟩, hB9⟩
          | false =>
            have HG2 : Hid (G = ((0, 0, 0, []), 3)) := Lib.hid (by rw [HG.out, HX.out]; dsimp only; rw [← HEe.out, if_neg (by simp), hmr, if_neg (by simp)])
            clear HG hmr HX HB6
            go_upto_region 14 with fail
            refine wp_region_lit ?_
            refine wpList_step (fun K hK => ?_)
            go_simp
            refine hK _ _ ?_
            clear hK K
            refine wpList_store_rowTo rfl 34 _ _ rfl rfl H #[.int .i64 0, .int .i64 0, .int .u64 0, .slice none 0 0] rfl rfl 34 _ HA6.out (i4 _ rfl) rfl (four_one _ _ _ _ _ _) ?_
            have HR' := setRow_heap w6 H _ #[.int .i64 0, .int .i64 0, .int .u64 0, .slice none 0 0] 34 (0, 0) HA6.out
            have hB9 : Below H W (w6.setRow H #[.int .i64 0, .int .i64 0, .int .u64 0, .slice none 0 0]) := ⟨HO6.out.os, HO6.out.tape, HO6.out.output, by simpa using HO6.out.size, fun i hi => (setRow_other _ _ _ _ (by omega)).trans (HO6.out.block i hi)⟩
            obtain ⟨W9, hW9⟩ : ∃ W9, W9 = w6.setRow H #[.int .i64 0, .int .i64 0, .int .u64 0, .slice none 0 0] := ⟨_, rfl⟩
            rw [← hW9] at HR' hB9 ⊢
            clear hW9 HA6 HW6 HO6
            go_wp2_with fail
            rw [HH.out] at HR' hB9
            exact bodyPost_ret (res_pget _ _ W.heap.size #[.int .i64 0, .int .i64 0, .int .u64 0, .slice none 0 0] 3 rfl (by rw [← HH.out]; rfl) rfl HR') rfl ⟨⟨.slice none 0 0, by rw [HG2.out]; rfl, by rw [HG2.out]; exact World.ownsRow_nil _ _ _ _⟩, hB9⟩
        · have he2 : (e == 0) = false := by simpa using he
          have HX2 : Hid (X.2 = rk) := Lib.hid (by rw [HX.out])
          clear HB5 HW5 HX
          have HG2 : Hid (G = ((0, 0, 0, []), e)) := Lib.hid (by rw [HG.out, HX2.out, ← HEe.out, if_pos he])
          clear HG
          go_upto_region 12 with fail
          refine wp_region_lit ?_
          refine wpList_step (fun K hK => ?_)
          go_simp
          refine hK _ _ ?_
          clear hK K
          refine wpList_step (fun K hK => ?_)
          go_simp
          refine hK _ _ ?_
          clear hK K
          refine wpList_step (fun K hK => ?_)
          go_simp
          refine (HE.out _ HR5.out).mono ?_
          rintro _ w6 ⟨rfl, hR6, hO6⟩
          have HA6 := Lib.hid ((hO6.block _ (Array.getElem?_eq_some_iff.1 HA5.out).1 (by omega)).trans HA5.out)
          have HO6 := Lib.hid (Only.below HO5.out hO6 (by omega) (by rw [HH.out]; exact HO5.out.size))
          clear hR6 hO6
          refine hK _ _ ?_
          clear hK K
          refine wpList_store_rowTo rfl 34 _ _ rfl rfl H #[.int .i64 0, .int .i64 0, .int .u64 0, .slice none 0 0] rfl rfl 34 _ HA6.out (i4 _ rfl) rfl (four_one _ _ _ _ _ _) ?_
          have HR' := setRow_heap w6 H _ #[.int .i64 0, .int .i64 0, .int .u64 0, .slice none 0 0] 34 (0, 0) HA6.out
          have hB9 : Below H W (w6.setRow H #[.int .i64 0, .int .i64 0, .int .u64 0, .slice none 0 0]) := ⟨HO6.out.os, HO6.out.tape, HO6.out.output, by simpa using HO6.out.size, fun i hi => (setRow_other _ _ _ _ (by omega)).trans (HO6.out.block i hi)⟩
          obtain ⟨W9, hW9⟩ : ∃ W9, W9 = w6.setRow H #[.int .i64 0, .int .i64 0, .int .u64 0, .slice none 0 0] := ⟨_, rfl⟩
          rw [← hW9] at HR' hB9 ⊢
          clear hW9 HA5 HO5 HR5 HA6 HO6
          go_wp2_with fail
          rw [HH.out] at HR' hB9
          exact bodyPost_ret (res_pget _ _ W.heap.size #[.int .i64 0, .int .i64 0, .int .u64 0, .slice none 0 0] e rfl (by rw [← HH.out]; rfl) rfl HR') rfl ⟨⟨.slice none 0 0, by rw [HG2.out]; rfl, by rw [HG2.out]; exact World.ownsRow_nil _ _ _ _⟩, hB9⟩
    · have hbi : (rk.b == 0) = false := by simpa using hb
      have hbd : decide (rk.b = 0) = false := by simpa using hb
      have hx2 : (msgsR n r4).2 = rk := by
        rcases hmr.out with h | h
        · exact absurd h.1 hb
        · exact h.2
      have HX : Hid (X.2 = rk) := Lib.hid (by rw [HP.out]; exact hx2)
      have HBn := Lib.hid hb
      clear hmr hx2 hb
      by_cases hlt : k < n
      · have hki : (k : Int) < (n : Int) := by omega
        clear hlt
        obtain ⟨e, hee⟩ : ∃ e, e = rk.end' := ⟨_, rfl⟩
        have he0 := fun V (h : PLies V R s rk) => pend_any R s rk hs V h
        rw [← hee] at he0
        have HE := Lib.hid he0
        have HEe := Lib.hid hee
        clear he0 hee
        go_wp2_with fail
        refine (HE.out _ HR.out).mono ?_
        rintro _ w5 ⟨rfl, hR5, hO5⟩
        have HA5 := Lib.hid ((hO5.block _ (Array.getElem?_eq_some_iff.1 HA.out).1 (by omega)).trans HA.out)
        have HB5 := Lib.hid ((hO5.block _ (Array.getElem?_eq_some_iff.1 HB.out).1 (by omega)).trans HB.out)
        have HO5 := Lib.hid (Only.below HO.out hO5 (by omega) (by rw [HH.out]; exact HO.out.size))
        have HW5 := Lib.hid (own_only' HW.out hO5 (Classical.choose_spec HR.out).2.2 (by decide))
        have HR5 := Lib.hid hR5
        clear hR5 hO5 HA HB HO HW HR c2
        have he : e ≠ 0 := by
          rw [HEe.out]
          unfold R2.end'
          rw [if_neg (fun h => HBn.out h.1)]
          exact HBn.out
        have he2 : (e == 0) = false := by simpa using he
        clear HB5 HW5
        have HG2 : Hid (G = ((0, 0, 0, []), e)) := Lib.hid (by rw [HG.out, HX.out, ← HEe.out, if_pos he])
        clear HG
        go_upto_region 12 with fail
        refine wp_region_lit ?_
        refine wpList_step (fun K hK => ?_)
        go_simp
        refine hK _ _ ?_
        clear hK K
        refine wpList_step (fun K hK => ?_)
        go_simp
        refine hK _ _ ?_
        clear hK K
        refine wpList_step (fun K hK => ?_)
        go_simp
        refine (HE.out _ HR5.out).mono ?_
        rintro _ w6 ⟨rfl, hR6, hO6⟩
        have HA6 := Lib.hid ((hO6.block _ (Array.getElem?_eq_some_iff.1 HA5.out).1 (by omega)).trans HA5.out)
        have HO6 := Lib.hid (Only.below HO5.out hO6 (by omega) (by rw [HH.out]; exact HO5.out.size))
        clear hR6 hO6
        refine hK _ _ ?_
        clear hK K
        refine wpList_store_rowTo rfl 34 _ _ rfl rfl H #[.int .i64 0, .int .i64 0, .int .u64 0, .slice none 0 0] rfl rfl 34 _ HA6.out (i4 _ rfl) rfl (four_one _ _ _ _ _ _) ?_
        have HR' := setRow_heap w6 H _ #[.int .i64 0, .int .i64 0, .int .u64 0, .slice none 0 0] 34 (0, 0) HA6.out
        have hB9 : Below H W (w6.setRow H #[.int .i64 0, .int .i64 0, .int .u64 0, .slice none 0 0]) := ⟨HO6.out.os, HO6.out.tape, HO6.out.output, by simpa using HO6.out.size, fun i hi => (setRow_other _ _ _ _ (by omega)).trans (HO6.out.block i hi)⟩
        obtain ⟨W9, hW9⟩ : ∃ W9, W9 = w6.setRow H #[.int .i64 0, .int .i64 0, .int .u64 0, .slice none 0 0] := ⟨_, rfl⟩
        rw [← hW9] at HR' hB9 ⊢
        clear hW9 HA5 HO5 HR5 HA6 HO6
        go_wp2_with fail
        rw [HH.out] at HR' hB9
        exact bodyPost_ret (res_pget _ _ W.heap.size #[.int .i64 0, .int .i64 0, .int .u64 0, .slice none 0 0] e rfl (by rw [← HH.out]; rfl) rfl HR') rfl ⟨⟨.slice none 0 0, by rw [HG2.out]; rfl, by rw [HG2.out]; exact World.ownsRow_nil _ _ _ _⟩, hB9⟩
      · have hki : ¬ (k : Int) < (n : Int) := by omega
        have hkd : decide ((k : Int) < (n : Int)) = false := by simpa using hki
        clear hlt
        obtain ⟨e, hee⟩ : ∃ e, e = rk.end' := ⟨_, rfl⟩
        have he0 := fun V (h : PLies V R s rk) => pend_any R s rk hs V h
        rw [← hee] at he0
        have HE := Lib.hid he0
        have HEe := Lib.hid hee
        clear he0 hee
        go_wp2_with fail
        refine (HE.out _ HR.out).mono ?_
        rintro _ w5 ⟨rfl, hR5, hO5⟩
        have HA5 := Lib.hid ((hO5.block _ (Array.getElem?_eq_some_iff.1 HA.out).1 (by omega)).trans HA.out)
        have HB5 := Lib.hid ((hO5.block _ (Array.getElem?_eq_some_iff.1 HB.out).1 (by omega)).trans HB.out)
        have HO5 := Lib.hid (Only.below HO.out hO5 (by omega) (by rw [HH.out]; exact HO.out.size))
        have HW5 := Lib.hid (own_only' HW.out hO5 (Classical.choose_spec HR.out).2.2 (by decide))
        have HR5 := Lib.hid hR5
        clear hR5 hO5 HA HB HO HW HR c2
        have he : e ≠ 0 := by
          rw [HEe.out]
          unfold R2.end'
          rw [if_neg (fun h => HBn.out h.1)]
          exact HBn.out
        have he2 : (e == 0) = false := by simpa using he
        clear HB5 HW5
        have HG2 : Hid (G = ((0, 0, 0, []), e)) := Lib.hid (by rw [HG.out, HX.out, ← HEe.out, if_pos he])
        clear HG
        go_upto_region 12 with fail
        refine wp_region_lit ?_
        refine wpList_step (fun K hK => ?_)
        go_simp
        refine hK _ _ ?_
        clear hK K
        refine wpList_step (fun K hK => ?_)
        go_simp
        refine hK _ _ ?_
        clear hK K
        refine wpList_step (fun K hK => ?_)
        go_simp
        refine (HE.out _ HR5.out).mono ?_
        rintro _ w6 ⟨rfl, hR6, hO6⟩
        have HA6 := Lib.hid ((hO6.block _ (Array.getElem?_eq_some_iff.1 HA5.out).1 (by omega)).trans HA5.out)
        have HO6 := Lib.hid (Only.below HO5.out hO6 (by omega) (by rw [HH.out]; exact HO5.out.size))
        clear hR6 hO6
        refine hK _ _ ?_
        clear hK K
        refine wpList_store_rowTo rfl 34 _ _ rfl rfl H #[.int .i64 0, .int .i64 0, .int .u64 0, .slice none 0 0] rfl rfl 34 _ HA6.out (i4 _ rfl) rfl (four_one _ _ _ _ _ _) ?_
        have HR' := setRow_heap w6 H _ #[.int .i64 0, .int .i64 0, .int .u64 0, .slice none 0 0] 34 (0, 0) HA6.out
        have hB9 : Below H W (w6.setRow H #[.int .i64 0, .int .i64 0, .int .u64 0, .slice none 0 0]) := ⟨HO6.out.os, HO6.out.tape, HO6.out.output, by simpa using HO6.out.size, fun i hi => (setRow_other _ _ _ _ (by omega)).trans (HO6.out.block i hi)⟩
        obtain ⟨W9, hW9⟩ : ∃ W9, W9 = w6.setRow H #[.int .i64 0, .int .i64 0, .int .u64 0, .slice none 0 0] := ⟨_, rfl⟩
        rw [← hW9] at HR' hB9 ⊢
        clear hW9 HA5 HO5 HR5 HA6 HO6
        go_wp2_with fail
        rw [HH.out] at HR' hB9
        exact bodyPost_ret (res_pget _ _ W.heap.size #[.int .i64 0, .int .i64 0, .int .u64 0, .slice none 0 0] e rfl (by rw [← HH.out]; rfl) rfl HR') rfl ⟨⟨.slice none 0 0, by rw [HG2.out]; rfl, by rw [HG2.out]; exact World.ownsRow_nil _ _ _ _⟩, hB9⟩
end Go.Proofs.Ytfalmebgjghjeab.Rd
