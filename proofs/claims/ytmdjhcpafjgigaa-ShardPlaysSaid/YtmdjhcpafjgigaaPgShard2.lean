/- The page's shard: Expire. -/
import Derived.Test.YtmdjhcpafjgigaaPgShard1
namespace Go.Proofs.Ytmdjhcpafjgigaa.Mk
open Go Go.RowKit Go.MuLone

theorem own_base {V : World} {b b' n : Nat} {v : Value} {xs : List Value} (h : V.ownsRow b TEn 5 v n xs) (hb : b' ≤ b) : V.ownsRow b' TEn 5 v n xs := by
  refine ⟨h.1, ?_⟩
  rcases h.2 with h2 | ⟨g, cap, cur, hv, hg, r⟩
  · exact Or.inl h2
  · exact Or.inr ⟨g, cap, cur, hv, Nat.le_trans hb hg, r⟩
/-- another row -/
theorem QI.swap {V : World} {Q b : Nat} {room : Int} {v v' : Value} {ls ls' : List En} (h : QI V Q room v ls) (hr : V.ownsRow b TEn 5 v' ls'.length (ecs ls')) (hb : Q + 1 ≤ b) : QI (V.setCell ⟨Q, 0, none⟩ v') Q room v' ls' :=
  ⟨(setCell_at v' h.box).trans rfl, own_keep5 (own_base hr hb) fun k h1 _ => Below.heap_setCell _ _ _ _ (show k ≠ Q by omega)⟩
set_option maxRecDepth 20000 in
set_option maxHeartbeats 1000000 in
theorem qexpire_any (Q : Nat) (room : Int) (v : Value) (ls : List En) (k : K3) (w : World) (h : QI w Q room v ls) (hn : ls.length ≤ 1000) :
    Calls Try.prog 23 #[.pointer (some ⟨Q, 0, none⟩), k.val] w fun e w' => e = .returned (.int .i64 (qR 3 0 k ls)) ∧ ∃ v', QI w' Q room v' (qC 3 0 k ls (ls.eraseIdx (qf k ls).toNat)) ∧ Below Q w w' := by
  have HK := Lib.hid (KB.new w k)
  have HQ := Lib.hid (h.alloc (.cells #[.int .i64 k.c, .int .i64 k.f, .int .u64 k.s] 35))
  have HQ0 : Hid (Q < w.heap.size) := h.lt
  clear h
  obtain ⟨K0, hK0⟩ : ∃ K0 : K3, K0 = k := ⟨_, rfl⟩
  obtain ⟨kc, kf, ks⟩ := k
  unfold K3.val
  dsimp only at HK HQ ⊢
  have HF := Lib.hid (find_any Q room v ls ⟨kc, kf, ks⟩ _ HQ.out hn)
  unfold K3.val at HF
  dsimp only at HF
  rw [← hK0] at HK HF ⊢
  have HK0 := Lib.hid hK0
  clear hK0
  go_enter Try.func23, Try.ntmps23
  go_wp2_with fail
  generalize w.alloc (.cells #[.int .i64 kc, .int .i64 kf, .int .u64 ks] 35) = W1 at HK HQ HF ⊢
  refine HF.out.mono ?_
  rintro _ w1 ⟨rfl, hb⟩
  have HK1 := Lib.hid (HK.out.below hb)
  have HQ1 := Lib.hid (HQ.out.below hb)
  clear HK HQ HF hb
  have HB1 : Hid (Below Q w w1) := HK1.out.bel.mono (Nat.le_of_lt HQ0.out)
  obtain ⟨A, c, rfl⟩ := HQ1.out.form
  obtain ⟨n, hnd⟩ : ∃ n, n = ls.length := ⟨_, rfl⟩
  have HN : Hid (n = ls.length) := hnd
  rw [← hnd] at hn HQ1
  clear hnd
  rcases qf_cases K0 ls with ⟨hq, hall⟩ | ⟨i, hi, hq, hki, hbf⟩
  · have HR : Hid (qR 3 0 K0 ls = 8) := by show qR _ _ _ _ = _; unfold qR; rw [qE_none hall]
    rw [hq]
    clear hall hq
    go_wp2
    go_ret
    exact ⟨by rw [HR.out]; first | rfl | trivial, _, by unfold qC; rw [if_neg (by rw [HR.out]; decide)]; exact HQ1.out, HB1.out⟩
  · have HE := Lib.hid (qE_some hi hki hbf)
    have HQF := Lib.hid hq
    rw [hq]
    obtain ⟨g, c1, hv, hgQ, hgl, he⟩ := HQ1.out.rowE.at i hi
    injection hv with hv hv1 hv2
    clear hv1
    subst hv hv2
    have HGQ := Lib.hid hgQ
    have hi0 : (0 : Int) ≤ (i : Int) := by omega
    have hin : (i : Int) < (n : Int) := by have := HN.out; omega
    have HI : Hid (i < ls.length) := hi
    have hr : qR 3 0 K0 ls = if (ls[i]).st ≠ 3 then 10 else if 3 = (2 : Int) ∧ (ls[i]).ow ≠ 0 then 9 else 0 := by
      unfold qR; rw [HE.out]; rfl
    generalize ls[i]'hi = m at he hr
    obtain ⟨⟨mc, mf, ms⟩, mst, mow⟩ := m
    obtain ⟨e0, e1, e2, e3, e4⟩ := he
    have q0 := HQ1.out.cell.1
    have q1 := HQ1.out.cell.2.2
    obtain ⟨-, k0, k1, k2⟩ := HK1.out
    rw [HK0.out] at k0 k1 k2
    dsimp only at e0 e1 e2 e3 e4 hr k0 k1 k2
    have HFZ : Hid (∀ o, w1.frozen? ⟨g, o, none⟩ = false) := by
      rcases HQ1.out.row.2 with ⟨h3, _⟩ | ⟨g', cap, cur, hv, hg, hh, _⟩
      · cases h3
      · injection hv with hv
        injection hv with hv
        injection hv with hv
        subst hv
        intro o; simp [World.frozen?, hh]
    clear hq hki hbf hgQ HE hi
    by_cases hst : mst = 3
    · rw [if_neg (by simpa using hst)] at hr
      subst hst
      have HR : Hid (qR 3 0 K0 ls = 0) := by rw [if_neg (by simp)] at hr; exact hr
      clear hr
      obtain ⟨i0, hi', hz0, hz1, hz2⟩ := info_partsE infoEn
      go_upto_region 8 with fail
      clear e0 e1 e2 e3 e4 q0 q1 k0 k1 k2
      have HI0 := Lib.hid hin
      go_loopw [6, 7] (fun o jv wr => ∃ (j : Nat) (acc : List En) (v6 : Value), o = v6 ∧ jv = .int .i64 (j : Int) ∧ j ≤ n ∧ Hid (acc = (ls.take j).eraseIdx i) ∧ wr.ownsRow w1.heap.size TEn 5 v6 acc.length (ecs acc) ∧ Below w1.heap.size w1 wr) (fun _ jv _ => n - (intOf jv).toNat)
      case atStart => exact ⟨0, [], _, rfl, rfl, Nat.zero_le _, by show ([] : List En) = _; simp, World.ownsRow_nil _ _ _ _, Below.refl _ _⟩
      case round =>
        obtain ⟨j, acc, v6, hv6, rfl, hj, hacc, how, hbl⟩ := hrel
        have HOW := Lib.hid how
        have HBL := Lib.hid hbl
        obtain ⟨A', n', c', hv7⟩ : ∃ A n c, v6 = .slice A n c := by
          rcases how.2 with ⟨h1, _⟩ | ⟨g, cap, cur, h1, _⟩
          · exact ⟨_, _, _, h1⟩
          · exact ⟨_, _, _, h1⟩
        subst hv7
        subst hv6
        have q0 := (HQ1.out.below hbl).cell.1
        have hj0 : (0 : Int) ≤ (j : Int) := by omega
        clear how hbl
        by_cases hlt : j < n
        · have hj1 : (j : Int) < (n : Int) := by omega
          have hacl : Hid (acc.length ≤ 1000) := by
            show _ ≤ _
            rw [hacc.out]
            refine Nat.le_trans (List.length_eraseIdx_le _ _) ?_
            rw [List.length_take]; omega
          by_cases hji : j = i
          · have HST : Hid (acc = (ls.take (j + 1)).eraseIdx i) := by
              show _ = _
              rw [hacc.out, List.take_succ_eq_append_getElem (by have := HN.out; omega), List.eraseIdx_append_of_length_le (by rw [List.length_take]; omega), List.eraseIdx_of_length_le (by rw [List.length_take]; omega)]
              rw [show i - (ls.take j).length = 0 by rw [List.length_take]; have := HN.out; omega]
              simp
            subst hji
            go_wp2
            go_roundw
            case rel => exact ⟨j + 1, acc, _, rfl, by go_num, by omega, HST, HOW.out, HBL.out⟩
            case measure => simp [intOf]; omega
          · have hje : ¬ ((j : Int) = (i : Int)) := by omega
            obtain ⟨g', c2, hv, _, _, he⟩ := (HQ1.out.below HBL.out).rowE.at j (by have := HN.out; omega)
            injection hv with hv hv1 hv2
            injection hv with hv
            injection hv with hv
            clear hv1
            subst hv hv2
            have HST : Hid (acc ++ [ls[j]'(by have := HN.out; omega)] = (ls.take (j + 1)).eraseIdx i) := by
              show _ = _
              rw [hacc.out, List.take_succ_eq_append_getElem (by have := HN.out; omega)]
              rcases Nat.lt_or_ge j i with h | h
              · rw [List.eraseIdx_of_length_le (by rw [List.length_take]; omega), List.eraseIdx_of_length_le (by rw [List.length_append, List.length_take, List.length_singleton]; omega)]
              · rw [List.eraseIdx_append_of_lt_length (by rw [List.length_take]; have := HN.out; omega)]
            generalize ls[j]'(by have := HN.out; omega) = m at he HST
            have HN2 := Lib.hid (cells5_new wr m (.cells m.cells TEn) rfl)
            have HA := Lib.hid (HOW.out.alloc (.cells m.cells TEn))
            have HBA := Lib.hid (HBL.out.alloc HBL.out.size (.cells m.cells TEn))
            have HSZ : Hid (w1.heap.size ≤ (wr.alloc (.cells m.cells TEn)).heap.size) := HBA.out.size
            obtain ⟨⟨mc', mf', ms'⟩, mst', mow'⟩ := m
            unfold En.cells at HN2 HA HBA HSZ
            obtain ⟨e0, e1, e2, e3, e4⟩ := he
            dsimp only at e0 e1 e2 e3 e4 HN2 HA HBA HSZ
            go_wp2_with (at_builtin; refine wpList_append_lies _ rfl _ _ 29 rfl w1.heap.size TEn i0 en0.val 5 40 Try.underlying29 hi' hz0 hz1 hz2 rfl (by decide) _ _ _ rfl HA.out ⟨wr.heap.size, 0, none⟩ 1 1 (encE ⟨⟨mc', mf', ms'⟩, mst', mow'⟩) rfl rfl HN2.out (encE_one _) (by decide) (by have := hacl.out; unfold maxLen; omega) (by have := hacl.out; omega) HSZ.out _ rfl ?_)
            intro g1 cap1 w6 hown hg6 _ _
            have hb6 : Below w1.heap.size w1 w6 := HBA.out.grown hg6 HSZ.out fun k hk => (HOW.out.lt k hk).1
            have H6 := Lib.hid (And.intro hown hb6)
            clear hown hg6 hb6
            go_wp2
            go_roundw
            case rel =>
              refine ⟨j + 1, _, _, rfl, by go_num, by omega, HST, ?_, H6.out.2⟩
              have h6 := H6.out.1
              have e1 : ∀ m, ecs (acc ++ [m]) = ecs acc ++ encE m := fun m => by simp [ecs]
              rw [e1, List.length_append, List.length_singleton]
              exact h6
            case measure => simp [intOf]; omega
        · obtain rfl : j = n := by omega
          have q2 := (HQ1.out.below HBL.out).cell.2.2
          have HE : Hid (acc = ls.eraseIdx i) := by
            show _ = _
            rw [hacc.out, HN.out, List.take_length]
          have hs := (HQ1.out.below HBL.out).swap HOW.out (by have := HQ1.out.lt; omega)
          have HS := Lib.hid (And.intro hs (HB1.out.trans (HBL.out.mono (Nat.le_of_lt HQ1.out.lt))))
          clear hs
          go_wp2
          go_ret
          refine ⟨by rw [HR.out]; first | rfl | trivial, _, by unfold qC; rw [if_pos HR.out, HQF.out, Int.toNat_natCast, ← HE.out]; exact HS.out.1, HS.out.2.setCell (Nat.le_refl _) _⟩
    · have HR : Hid (qR 3 0 K0 ls = 10) := by rw [if_pos (by simpa using hst)] at hr; exact hr
      clear hr
      go_wp2
      go_ret
      exact ⟨by rw [HR.out]; first | rfl | trivial, _, by unfold qC; rw [if_neg (by rw [HR.out]; decide)]; exact HQ1.out, HB1.out⟩
end Go.Proofs.Ytmdjhcpafjgigaa.Mk
