import Derived.Test.YtpkkomifenlkaaaGreatGap6
import Derived.Test.YtpkkomifenlkaaaGreatGap15
import Derived.Test.YtpkkomifenlkaaaGreatGapM
import Derived.Laws.OwnMore
import Derived.Deep.CutBlock
/- gap: container/heap's up and down at any many runs. -/
namespace Go.Proofs.YtpkkomifenlkaaaGreat.Gp
open Go Go.RowKit Gm

theorem rc_set : ∀ (l : List (Int × Int)) (i : Nat) (x : Int × Int), ((rc l).set (i * 2) (.int .u64 x.1)).set (i * 2 + 1) (.int .u64 x.2) = rc (l.set i x)
  | [], i, x => by simp [rc]
  | y :: l, 0, x => by simp [rc]
  | y :: l, i + 1, x => by
    have e : (i + 1) * 2 = i * 2 + 1 + 1 := by omega
    have e2 : (i + 1) * 2 + 1 = i * 2 + 1 + 1 + 1 := by omega
    rw [e]
    show (Value.int .u64 y.1 :: Value.int .u64 y.2 :: ((rc l).set (i * 2) _).set (i * 2 + 1) _) = _
    rw [rc_set l i x]
    rfl
theorem Fr.set {H g i : Nat} {u v v' : Value} {a b : World} (h : Fr H v v' a b) (hg : v.ownBlock = some g) : Fr H v v' a (b.setCell ⟨g, i, none⟩ u) :=
  ⟨h.os, h.tape, h.output, by simpa using h.size, fun k hk h1 h2 => (Below.heap_setCell _ _ _ _ (fun e => h2 (by rw [hg]; congr 1))).trans (h.block k hk h1 h2), h.own⟩
theorem HpO.lies {B : Nat} {W : World} {H g cap n : Nat} {l : List (Int × Int)} (h : HpO B W H (.slice (some ⟨g, 0, none⟩) n cap) l) : n = l.length ∧ B ≤ g ∧ RowIs W g l ∧ (∀ i, W.frozen? ⟨g, i, none⟩ = false) ∧ H ≠ g := by
  have hr := h.row
  have hne : H ≠ g := fun e => own_apart2 hr h.box (by decide) (by rw [e]; rfl)
  rcases hr.2 with ⟨h2, -⟩ | ⟨g', cap', cur, hv, hg, hh, h1, h2, h3, h4⟩
  · cases h2
  · have hr' := hr
    injection hv with hv hv2 hv3
    injection hv with hv
    injection hv with hv
    subst hv hv2 hv3
    exact ⟨rfl, hg, row_is hr', fun i => by simp [World.frozen?, hh], hne⟩
theorem swapH (B H g cap n i j : Nat) (l : List (Int × Int)) (hi : i < n) (hj : j < n) (W : World) (h : HpO B W H (.slice (some ⟨g, 0, none⟩) n cap) l) :
    Calls Tryz.prog 153 #[.slice (some ⟨g, 0, none⟩) n cap, .int .i64 (i : Int), .int .i64 (j : Int)] W fun e w' => e = .returned (.tuple #[]) ∧ HpO B w' H (.slice (some ⟨g, 0, none⟩) n cap) (sw l i j) ∧ Below B W w' ∧ Fr H (.slice (some ⟨g, 0, none⟩) n cap) (.slice (some ⟨g, 0, none⟩) n cap) W w' := by
  obtain ⟨hn, hg, hr, hf, hne⟩ := h.lies
  subst hn
  have hx := hr.2 i _ (List.getElem?_eq_getElem (by omega))
  have hy := hr.2 j _ (List.getElem?_eq_getElem (by omega))
  rw [Nat.zero_add] at hx hy
  have hfew := h.few
  refine (swap_any g cap l.length i j l[i] l[j] hi hj (fun e => by subst e; rfl) W hx.1 hx.2 hy.1 hy.2 hf).mono ?_
  rintro e w' ⟨rfl, rfl⟩
  have hs : sw l i j = (l.set i l[j]).set j l[i] := by unfold sw; simp [List.getD_eq_getElem?_getD, (by omega : i < l.length), (by omega : j < l.length)]
  have hd := h.drew
  refine ⟨rfl, ⟨?_, h.low, ?_, by rw [sw_len]; exact h.few⟩, (((((Below.refl B W).drew).setCell hg _).setCell hg _).setCell hg _).setCell hg _, ((((Fr.of_below ((Below.refl _ W).drew)).set rfl).set rfl).set rfl).set rfl⟩
  · rw [Below.heap_setCell _ _ _ _ hne, Below.heap_setCell _ _ _ _ hne, Below.heap_setCell _ _ _ _ hne, Below.heap_setCell _ _ _ _ hne]
    exact h.box
  · have hrow := hd.row
    have := ((((hrow.stored (i * 2) (.int .u64 l[j].1)).1.stored (i * 2 + 1) (.int .u64 l[j].2)).1.stored (j * 2) (.int .u64 l[i].1)).1.stored (j * 2 + 1) (.int .u64 l[i].2)).1
    rw [rc_set, rc_set, ← hs] at this
    rw [sw_len]
    exact this
theorem lessH (B H g cap n i j : Nat) (l : List (Int × Int)) (hi : i < n) (hj : j < n) (v : Bool) (hv : decide (key l i < key l j) = v) (W : World) (h : HpO B W H (.slice (some ⟨g, 0, none⟩) n cap) l) :
    Calls Tryz.prog 152 #[.slice (some ⟨g, 0, none⟩) n cap, .int .i64 (i : Int), .int .i64 (j : Int)] W fun e w' => e = .returned (.bool v) ∧ ∃ q, w' = W.drewN q := by
  obtain ⟨hn, hg, hr, hf, hne⟩ := h.lies
  subst hn
  refine (less_any g cap l i j l[i] l[j] (List.getElem?_eq_getElem hi) (List.getElem?_eq_getElem hj) W hr).mono ?_
  rintro e w' ⟨rfl, hw⟩
  refine ⟨?_, hw⟩
  rw [← hv]
  unfold key
  simp [List.getD_eq_getElem?_getD, hi, hj]
/-- inside up and down: the heap as it was at W0 has become m, what lies from n on has not moved -/
structure HS (B H g cap n : Nat) (l0 : List (Int × Int)) (W0 : World) (m : List (Int × Int)) (W : World) : Prop where
  hp : HpO B W H (.slice (some ⟨g, 0, none⟩) l0.length cap) m
  perm : m.Perm l0
  rest : ∀ k, n ≤ k → m.getD k (0, 0) = l0.getD k (0, 0)
  bel : Below B W0 W
  fr : Fr H (.slice (some ⟨g, 0, none⟩) l0.length cap) (.slice (some ⟨g, 0, none⟩) l0.length cap) W0 W
theorem HS.start {B H g cap n : Nat} {l0 : List (Int × Int)} {W0 : World} (h : HpO B W0 H (.slice (some ⟨g, 0, none⟩) l0.length cap) l0) : HS B H g cap n l0 W0 l0 W0 :=
  ⟨h, List.Perm.refl _, fun _ _ => rfl, Below.refl _ _, Fr.of_below (Below.refl _ _)⟩
theorem HS.len {B H g cap n : Nat} {l0 m : List (Int × Int)} {W0 W : World} (h : HS B H g cap n l0 W0 m W) : m.length = l0.length := h.perm.length_eq
theorem HS.drewN {B H g cap n : Nat} {l0 m : List (Int × Int)} {W0 W : World} (h : HS B H g cap n l0 W0 m W) (q : Nat) : HS B H g cap n l0 W0 m (W.drewN q) :=
  ⟨h.hp.drewN q, h.perm, h.rest, below_drewN h.bel q, h.fr.trans (Fr.of_below (below_drewN (Below.refl _ W) q))⟩
theorem sw_rest (l : List (Int × Int)) (i j k : Nat) (hi : i ≠ k) (hj : j ≠ k) : (sw l i j).getD k (0, 0) = l.getD k (0, 0) := by
  unfold sw
  simp [List.getD_eq_getElem?_getD, hi, hj]
theorem HS.swap {B H g cap n : Nat} {l0 m : List (Int × Int)} {W0 W : World} (h : HS B H g cap n l0 W0 m W) (hn : n ≤ l0.length) (i j : Nat) (hi : i < n) (hj : j < n) :
    Calls Tryz.prog 153 #[.slice (some ⟨g, 0, none⟩) l0.length cap, .int .i64 (i : Int), .int .i64 (j : Int)] W fun e w' => e = .returned (.tuple #[]) ∧ HS B H g cap n l0 W0 (sw m i j) w' := by
  refine (swapH B H g cap l0.length i j m (by omega) (by omega) W h.hp).mono ?_
  rintro e w' ⟨rfl, h1, h2, h3⟩
  have := h.len
  exact ⟨rfl, h1, (sw_perm m i j (by omega) (by omega)).trans h.perm, fun k hk => (sw_rest m i j k (by omega) (by omega)).trans (h.rest k hk), h.bel.trans h2, h.fr.trans h3⟩
set_option maxRecDepth 20000 in
set_option maxHeartbeats 2000000 in
theorem up_any (B H g cap n : Nat) (l : List (Int × Int)) (j : Nat) (W W0 : World) (l0 : List (Int × Int)) (h : HS B H g cap n l0 W0 l W) (hn : n ≤ l0.length) (hj : j < n) (hu : UpI n j l) :
    Calls Tryz.prog 100 #[IH H, .int .i64 (j : Int)] W fun e w' => e = .returned (.tuple #[]) ∧ ∃ m, HS B H g cap n l0 W0 m w' ∧ Hp n m := by
  have hfew : l0.length ≤ 1000 := by have := h.hp.few; have := h.len; omega
  have HSt := Lib.hid h
  have HU := Lib.hid hu
  clear h hu
  unfold IH
  go_enter Tryz.func100, Tryz.ntmps100
  go_wp2
  go_loopw [1] (fun vj wr => ∃ (k : Nat) (m : List (Int × Int)), vj = .int .i64 (k : Int) ∧ k < n ∧ Hid (HS B H g cap n l0 W0 m wr ∧ UpI n k m)) (fun vj _ => (intOf vj).toNat)
  case atStart => exact ⟨j, l, rfl, hj, Lib.hid ⟨HSt.out, HU.out⟩⟩
  case round =>
    clear HSt HU hj
    obtain ⟨k, m, rfl, hk, HM⟩ := hrel
    have hlen := HM.out.1.len
    by_cases h0 : k = 0
    · subst h0
      go_wp2
      go_end0
      exact ⟨rfl, m, HM.out.1, up_zero HM.out.2⟩
    · obtain ⟨p, hp⟩ : ∃ p, (k - 1) / 2 = p := ⟨_, rfl⟩
      have e1 : ((k : Int) - 1) / 2 = (p : Int) := by omega
      have h1 : 1 ≤ (k : Int) := by omega
      have hpk : (p : Int) < (k : Int) := by omega
      have hne : ¬ (p : Int) = (k : Int) := by omega
      have hl := m_less H _ wr (cell_of_row wr H 0 _ _ (0, 0) HM.out.1.hp.box)
      cases hv : decide (key m k < key m p) with
      | true =>
        have HL := Lib.hid (lessH B H g cap l0.length k p m (by omega) (by omega) true hv wr HM.out.1.hp)
        go_wp2_with fail
        refine HL.out.mono ?_
        rintro _ w1 ⟨rfl, q, rfl⟩
        have hs := m_swap H _ (wr.drewN q) (cell_of_row _ H 0 _ _ (0, 0) (HM.out.1.drewN q).hp.box)
        go_wp2_with fail
        refine ((HM.out.1.drewN q).swap hn p k (by omega) hk).mono ?_
        rintro _ w2 ⟨rfl, h2⟩
        have HE := Lib.hid (And.intro h2 (up_step HM.out.2 hp (by omega) hk (by omega) (of_decide_eq_true hv)))
        clear h2
        go_wp2
        exact ⟨⟨p, _, rfl, by omega, HE⟩, by simp [intOf]; omega⟩
      | false =>
        have HL := Lib.hid (lessH B H g cap l0.length k p m (by omega) (by omega) false hv wr HM.out.1.hp)
        go_wp2_with fail
        refine HL.out.mono ?_
        rintro _ w1 ⟨rfl, q, rfl⟩
        go_wp2
        go_end0
        exact ⟨rfl, m, HM.out.1.drewN q, up_stop HM.out.2 (by rw [hp]; exact of_decide_eq_false hv)⟩
/-- what down says: whether it has moved -/
def DownP (B H g cap n : Nat) (l0 : List (Int × Int)) (W0 : World) (i : Nat) (e : Ending) (w' : World) : Prop :=
  ∃ b, e = .returned (.bool b) ∧ ∃ m, HS B H g cap n l0 W0 m w' ∧ (b = true → Hp n m) ∧ (b = false → UpI n i m)
set_option maxRecDepth 20000 in
set_option maxHeartbeats 4000000 in
theorem down_any (B H g cap n : Nat) (l : List (Int × Int)) (i : Nat) (W W0 : World) (l0 : List (Int × Int)) (h : HS B H g cap n l0 W0 l W) (hn : n ≤ l0.length) (hi : i ≤ n) (hu : DnI n i l) :
    Calls Tryz.prog 95 #[IH H, .int .i64 (i : Int), .int .i64 (n : Int)] W (DownP B H g cap n l0 W0 i) := by
  have hfew : l0.length ≤ 1000 := by have := h.hp.few; have := h.len; omega
  have HSt := Lib.hid h
  have HU := Lib.hid hu
  have hi0 : i ≤ 1000 := by omega
  clear h hu
  unfold IH
  go_enter Tryz.func95, Tryz.ntmps95
  go_wp2
  go_loopw [7] (fun vj wr => ∃ (k : Nat) (m : List (Int × Int)), vj = .int .i64 (k : Int) ∧ i ≤ k ∧ k ≤ 1000 ∧ Hid (HS B H g cap n l0 W0 m wr ∧ DnI n k m ∧ (i < k → k < n ∧ key m ((k - 1) / 2) ≤ key m k) ∧ (k = i → m = l))) (fun vj _ => 1000 - (intOf vj).toNat)
  case atStart => exact ⟨i, l, rfl, Nat.le_refl _, hi0, Lib.hid ⟨HSt.out, HU.out, fun h => absurd h (Nat.lt_irrefl _), fun _ => rfl⟩⟩
  case round =>
    clear HSt HU
    obtain ⟨k, m, rfl, hik, hk9, HM⟩ := hrel
    have hlen := HM.out.1.len
    -- the way out: nothing below is less
    have HOut : Hid (∀ q, (∀ c, 0 < c → c < n → (c - 1) / 2 = k → key m k ≤ key m c) → DownP B H g cap n l0 W0 i (.returned (.bool (decide (i < k)))) (wr.drewN q)) := Lib.hid fun q hc =>
      ⟨_, rfl, m, HM.out.1.drewN q, fun hb => dn_done HM.out.2.1 hc fun _ _ => (HM.out.2.2.1 (of_decide_eq_true hb)).2, fun hb => by
        have : k = i := by have := of_decide_eq_false hb; omega
        subst this
        exact up_still HM.out.2.1 hc⟩
    by_cases h1 : 2 * k + 1 < n
    · have e1 : (2 : Int) * (k : Int) + 1 < (n : Int) := by omega
      have e2 : ¬ (2 : Int) * (k : Int) + 1 < 0 := by omega
      go_upto_region 6 with fail
      go_cut [33] from 25 to 33 (fun s33 wc => ∃ (b : Bool) (q : Nat), s33 = .bool b ∧ Hid ((b = true → 2 * k + 1 + 1 < n ∧ key m (2 * k + 1 + 1) < key m (2 * k + 1)) ∧ (2 * k + 1 + 1 < n ∧ key m (2 * k + 1 + 1) < key m (2 * k + 1) → b = true)) ∧ wc = wr.drewN q)
      case first =>
        have hl := m_less H _ wr (cell_of_row wr H 0 _ _ (0, 0) HM.out.1.hp.box)
        by_cases h2 : 2 * k + 1 + 1 < n
        · have e3 : (2 : Int) * (k : Int) + 1 + 1 < (n : Int) := by omega
          obtain ⟨v, hv⟩ : ∃ v, decide (key m (2 * k + 1 + 1) < key m (2 * k + 1)) = v := ⟨_, rfl⟩
          have HL := Lib.hid (lessH B H g cap l0.length (2 * k + 1 + 1) (2 * k + 1) m (by omega) (by omega) v hv wr HM.out.1.hp)
          have HV := Lib.hid hv
          clear hv
          go_wp2_with fail
          refine HL.out.mono ?_
          rintro _ w1 ⟨rfl, q, rfl⟩
          go_wp2
          go_meet
          case rel =>
            refine ⟨v, q, rfl, Lib.hid ⟨fun e => ⟨h2, ?_⟩, fun e => ?_⟩, rfl⟩
            · have := HV.out; rw [e] at this; exact of_decide_eq_true this
            · rw [← HV.out]; exact decide_eq_true e.2
        · have e3 : ¬ (2 : Int) * (k : Int) + 1 + 1 < (n : Int) := by omega
          go_wp2
          go_meet
          case rel => exact ⟨false, 0, rfl, Lib.hid ⟨fun e => (by cases e), fun e => absurd e.1 h2⟩, rfl⟩
      case rest =>
        obtain ⟨b, q, rfl, HB, rfl⟩ := hcut
        cases b with
        | true =>
          obtain ⟨c, hc⟩ : ∃ c : Nat, c = 2 * k + 1 + 1 := ⟨_, rfl⟩
          have ec : (2 : Int) * (k : Int) + 1 + 1 = (c : Int) := by omega
          have hck : (c - 1) / 2 = k := by omega
          have c0 : 0 < c := by omega
          have cn : c < n := by have := HB.out.1 rfl; omega
          have HC : Hid (∀ d, 0 < d → d < n → (d - 1) / 2 = k → key m c ≤ key m d) := Lib.hid fun d d0 dn dk => by
            have e : d = 2 * k + 1 + 1 ∨ d = 2 * k + 1 := by omega
            have := HB.out.1 rfl
            rcases e with rfl | rfl
            · rw [hc]; exact Int.le_refl _
            · rw [hc]; omega
          clear HB hc
          go_upto_region 8 with fail
          rw [ec]
          have hl := m_less H _ (wr.drewN q) (cell_of_row _ H 0 _ _ (0, 0) (HM.out.1.drewN q).hp.box)
          cases hv : decide (key m c < key m k) with
          | true =>
            have HL := Lib.hid (lessH B H g cap l0.length c k m (by omega) (by omega) true hv (wr.drewN q) (HM.out.1.drewN q).hp)
            go_wp2_with fail
            refine HL.out.mono ?_
            rintro _ w1 ⟨rfl, q2, rfl⟩
            have hs := m_swap H _ (wr.drewN (q + q2)) (cell_of_row _ H 0 _ _ (0, 0) (HM.out.1.drewN (q + q2)).hp.box)
            go_wp2_with fail
            refine ((HM.out.1.drewN (q + q2)).swap hn k c (by omega) cn).mono ?_
            rintro _ w2 ⟨rfl, h2⟩
            have hst := dn_step HM.out.2.1 hck c0 cn (by omega) (of_decide_eq_true hv) HC.out
            have HE := Lib.hid (And.intro h2 hst)
            clear h2 hst
            go_wp2
            go_roundw
            case rel =>
              exact ⟨c, _, rfl, by omega, by omega, Lib.hid ⟨HE.out.1, HE.out.2.1, fun _ => ⟨cn, by rw [hck]; exact HE.out.2.2⟩, fun e => by omega⟩⟩
            case measure => simp [intOf]; omega
          | false =>
            have HL := Lib.hid (lessH B H g cap l0.length c k m (by omega) (by omega) false hv (wr.drewN q) (HM.out.1.drewN q).hp)
            have HO := Lib.hid (fun q => HOut.out q (fun d d0 dn dk => by have := HC.out d d0 dn dk; have := of_decide_eq_false hv; omega))
            go_wp2_with fail
            refine HL.out.mono ?_
            rintro _ w1 ⟨rfl, q2, rfl⟩
            go_wp2
            go_ret
            exact HO.out (q + q2)
        | false =>
          obtain ⟨c, hc⟩ : ∃ c : Nat, c = 2 * k + 1 := ⟨_, rfl⟩
          have ec : (2 : Int) * (k : Int) + 1 = (c : Int) := by omega
          have hck : (c - 1) / 2 = k := by omega
          have c0 : 0 < c := by omega
          have cn : c < n := by omega
          have HC : Hid (∀ d, 0 < d → d < n → (d - 1) / 2 = k → key m c ≤ key m d) := Lib.hid fun d d0 dn dk => by
            have e : d = 2 * k + 1 + 1 ∨ d = 2 * k + 1 := by omega
            have := HB.out.2
            rcases e with rfl | rfl
            · rw [hc]; by_cases e : key m (2 * k + 1 + 1) < key m (2 * k + 1); exact absurd (this ⟨dn, e⟩) (by decide); omega
            · rw [hc]; exact Int.le_refl _
          clear HB hc
          go_upto_region 8 with fail
          rw [ec]
          have hl := m_less H _ (wr.drewN q) (cell_of_row _ H 0 _ _ (0, 0) (HM.out.1.drewN q).hp.box)
          cases hv : decide (key m c < key m k) with
          | true =>
            have HL := Lib.hid (lessH B H g cap l0.length c k m (by omega) (by omega) true hv (wr.drewN q) (HM.out.1.drewN q).hp)
            go_wp2_with fail
            refine HL.out.mono ?_
            rintro _ w1 ⟨rfl, q2, rfl⟩
            have hs := m_swap H _ (wr.drewN (q + q2)) (cell_of_row _ H 0 _ _ (0, 0) (HM.out.1.drewN (q + q2)).hp.box)
            go_wp2_with fail
            refine ((HM.out.1.drewN (q + q2)).swap hn k c (by omega) cn).mono ?_
            rintro _ w2 ⟨rfl, h2⟩
            have hst := dn_step HM.out.2.1 hck c0 cn (by omega) (of_decide_eq_true hv) HC.out
            have HE := Lib.hid (And.intro h2 hst)
            clear h2 hst
            go_wp2
            go_roundw
            case rel =>
              exact ⟨c, _, rfl, by omega, by omega, Lib.hid ⟨HE.out.1, HE.out.2.1, fun _ => ⟨cn, by rw [hck]; exact HE.out.2.2⟩, fun e => by omega⟩⟩
            case measure => simp [intOf]; omega
          | false =>
            have HL := Lib.hid (lessH B H g cap l0.length c k m (by omega) (by omega) false hv (wr.drewN q) (HM.out.1.drewN q).hp)
            have HO := Lib.hid (fun q => HOut.out q (fun d d0 dn dk => by have := HC.out d d0 dn dk; have := of_decide_eq_false hv; omega))
            go_wp2_with fail
            refine HL.out.mono ?_
            rintro _ w1 ⟨rfl, q2, rfl⟩
            go_wp2
            go_ret
            exact HO.out (q + q2)
    · have e1 : ¬ (2 : Int) * (k : Int) + 1 < (n : Int) := by omega
      have h2 : ¬ (2 : Int) * (k : Int) + 1 < 0 := by omega
      have HO := Lib.hid (HOut.out 0 (fun c c0 cn ck => by omega))
      go_wp2
      go_ret
      exact HO.out
end Go.Proofs.YtpkkomifenlkaaaGreat.Gp
/- gap: container/heap's Push, Remove, Pop at any many runs. -/
namespace Go.Proofs.YtpkkomifenlkaaaGreat.Gp
open Go Go.RowKit Gm

set_option maxRecDepth 20000 in
set_option maxHeartbeats 2000000 in
theorem hpush_any (B H : Nat) (v : Value) (l : List (Int × Int)) (x : Int × Int) (W : World) (h : HpO B W H v l) (hB : B ≤ W.heap.size) (hf : l.length < 1000) (hp : Hp l.length l) :
    Calls Tryz.prog 71 #[IH H, .iface TRn (.agg #[.int .u64 x.1, .int .u64 x.2])] W fun e w' => e = .returned (.tuple #[]) ∧ ∃ v' l', HpO B w' H v' l' ∧ l'.Perm (x :: l) ∧ Hp l'.length l' ∧ Below B W w' ∧ Fr H v v' W w' := by
  have hm := m_push H W
  have HPu := Lib.hid (push_any B H v l x W h hB hf)
  have HH := Lib.hid hp
  clear h hp
  unfold IH
  go_enter Tryz.func71, Tryz.ntmps71
  go_wp2_with fail
  refine HPu.out.mono ?_
  rintro _ w1 ⟨rfl, v1, hP1, b1, fr1⟩
  have hlen : (l ++ [x]).length = l.length + 1 := by simp
  have hr := hP1.row
  rw [hlen] at hr
  obtain ⟨g, cap, rfl, hg⟩ := own_block hr (by omega)
  have hl := m_len H _ w1 (cell_of_row w1 H 0 _ _ (0, 0) hP1.box)
  have HS0 := Lib.hid (HS.start (B := B) (H := H) (g := g) (cap := cap) (n := (l ++ [x]).length) (l0 := l ++ [x]) (by rw [hlen]; exact hP1))
  have hb3 := Lib.hid (And.intro b1 fr1)
  clear hP1 b1 fr1 hm HPu hr
  go_wp2_with fail
  refine (rlen_any _ _ _ _).mono ?_
  rintro _ w2 ⟨rfl, rfl⟩
  go_wp2_with fail
  refine (up_any B H g cap (l ++ [x]).length (l ++ [x]) l.length _ _ (l ++ [x]) HS0.out (Nat.le_refl _) (by omega) (by rw [hlen]; exact up_push x HH.out)).mono ?_
  rintro _ w3 ⟨rfl, m, h3, h4⟩
  have HE := Lib.hid (And.intro h3 h4)
  clear h3 h4
  go_wp2
  go_end0
  refine ⟨rfl, _, m, HE.out.1.hp, HE.out.1.perm.trans (List.perm_append_singleton x l), ?_, hb3.out.1.trans HE.out.1.bel, ?_⟩
  · rw [HE.out.1.len]
    exact HE.out.2
  · have := HE.out.1.fr
    rw [hlen] at this ⊢
    exact hb3.out.2.trans this
/-- the last one goes -/
theorem pop_last {B H g cap n : Nat} {l0 : List (Int × Int)} {W0 W : World} {m : List (Int × Int)} (hs : HS B H g cap n l0 W0 m W) (hn : l0.length = n + 1) (hp : Hp n m) (hB : B ≤ W.heap.size) :
    ∃ r x, x = l0.getD n (0, 0) ∧ (x :: r).Perm l0 ∧ Hp r.length r ∧ Calls Tryz.prog 154 #[.pointer (some ⟨H, 0, none⟩)] W fun e w' => e = .returned (.iface TRn (.agg #[.int .u64 x.1, .int .u64 x.2])) ∧ ∃ v', HpO B w' H v' r ∧ Below B W w' ∧ Fr H (.slice (some ⟨g, 0, none⟩) l0.length cap) v' W w' := by
  obtain ⟨r, x, rfl, h1, h2⟩ := last_of (hs.len.trans hn)
  refine ⟨r, x, h2.trans (hs.rest n (Nat.le_refl _)), (List.perm_append_singleton x r).symm.trans hs.perm, ?_, pop_any B H _ r x W hs.hp hB⟩
  rw [← h1] at hp
  exact hp_pop hp
set_option maxRecDepth 20000 in
set_option maxHeartbeats 2000000 in
theorem hrem_any (B H : Nat) (v : Value) (l : List (Int × Int)) (i : Nat) (W : World) (h : HpO B W H v l) (hB : B ≤ W.heap.size) (hi : i < l.length) (hp : Hp l.length l) :
    Calls Tryz.prog 99 #[IH H, .int .i64 (i : Int)] W fun e w' => e = .returned (.iface TRn (.agg #[.int .u64 l[i].1, .int .u64 l[i].2])) ∧ ∃ v' r, HpO B w' H v' r ∧ (l[i] :: r).Perm l ∧ Hp r.length r ∧ Below B W w' ∧ Fr H v v' W w' := by
  obtain ⟨n, hn⟩ : ∃ n, l.length = n + 1 := ⟨l.length - 1, by omega⟩
  obtain ⟨g, cap, rfl, hg⟩ := own_block h.row (by omega)
  have hl := m_len H _ W (cell_of_row W H 0 _ _ (0, 0) h.box)
  have hfew := h.few
  have hgi : l[i] = l.getD i (0, 0) := by simp [List.getD_eq_getElem?_getD, hi]
  rw [hgi]
  by_cases hin : i = n
  · subst hin
    obtain ⟨r, x, hx, hpm, hh, hc⟩ := pop_last (HS.start (n := i) h) hn (hp_less hp (by omega)) hB
    have hm := m_pop H W
    have HX := Lib.hid hx
    have HC := Lib.hid hc
    have HR := Lib.hid (And.intro hpm hh)
    rw [hn] at hl
    clear hc hpm hh hp h hx hgi
    unfold IH
    go_enter Tryz.func99, Tryz.ntmps99
    go_wp2_with fail
    refine (rlen_any _ _ _ _).mono ?_
    rintro _ w2 ⟨rfl, rfl⟩
    go_wp2_with fail
    refine HC.out.mono ?_
    rintro _ w3 ⟨rfl, v3, h3, b3, f3⟩
    have HE := Lib.hid (And.intro h3 (And.intro b3 f3))
    clear h3 b3 f3
    go_wp2
    go_ret
    exact ⟨by rw [← HX.out]; rfl, _, r, HE.out.1, by rw [← HX.out]; exact HR.out.1, HR.out.2, HE.out.2.1, HE.out.2.2⟩
  · have hilt : i < n := by omega
    have hne : ¬ (n : Int) = (i : Int) := by omega
    have hs := m_swap H _ W (cell_of_row W H 0 _ _ (0, 0) h.box)
    have HSw := Lib.hid (swapH B H g cap l.length i n l (by omega) (by omega) W h)
    have hD := dn_start (n := n) (i := i) (hn ▸ hp) hilt hn
    have hD := Lib.hid hD
    have hXe := sw_last (i := i) hn
    have hPm := sw_perm l i n (by omega) (by omega)
    have hlen1 : (sw l i n).length = n + 1 := by rw [sw_len]; exact hn
    generalize sw l i n = l1 at *
    rw [← hXe]
    have HPm := Lib.hid hPm
    clear hXe hPm hp h
    rw [hn] at hl hs HSw ⊢
    unfold IH
    go_enter Tryz.func99, Tryz.ntmps99
    go_wp2_with fail
    refine (rlen_any _ _ _ _).mono ?_
    rintro _ w1 ⟨rfl, rfl⟩
    go_wp2_with fail
    refine HSw.out.mono ?_
    rintro _ w2 ⟨rfl, h2, b2, f2⟩
    have HF := Lib.hid (And.intro b2 f2)
    rw [← hlen1] at h2
    have HS0 := Lib.hid (HS.start (n := n) h2)
    have hBw : B ≤ w2.heap.size := Nat.le_trans hB b2.size
    clear h2 b2 f2 hl hs
    go_wp2_with fail
    refine (down_any B H g cap n l1 i w2 w2 l1 HS0.out (by omega) (by omega) hD.out).mono ?_
    rintro _ w3 ⟨b, rfl, m, h3, h4, h5⟩
    have H3 := Lib.hid (And.intro h3 (And.intro h4 h5))
    have hBw3 : B ≤ w3.heap.size := Nat.le_trans hBw h3.bel.size
    clear h3 h4 h5
    cases b with
    | true =>
      obtain ⟨r, x, hx, hpm, hh, hc⟩ := pop_last H3.out.1 hlen1 (H3.out.2.1 rfl) hBw3
      have HX := Lib.hid hx
      have hm := m_pop H w3
      have HC := Lib.hid hc
      have HR := Lib.hid (And.intro hpm hh)
      clear hc hpm hh hx
      go_wp2_with fail
      refine HC.out.mono ?_
      rintro _ w4 ⟨rfl, v4, h4, b4, f4⟩
      have HE := Lib.hid (And.intro h4 (And.intro b4 f4))
      clear h4 b4 f4
      go_wp2
      go_ret
      refine ⟨by rw [← HX.out]; rfl, _, r, HE.out.1, by rw [← HX.out]; exact HR.out.1.trans HPm.out, HR.out.2, (HF.out.1.trans H3.out.1.bel).trans HE.out.2.1, HF.out.2.trans ?_⟩
      have := H3.out.1.fr.trans HE.out.2.2
      rw [hlen1] at this
      exact this
    | false =>
      have HU := Lib.hid (up_any B H g cap n m i w3 w2 l1 H3.out.1 (by omega) hilt (H3.out.2.2 rfl))
      go_wp2_with fail
      refine HU.out.mono ?_
      rintro _ w5 ⟨rfl, m5, h6, h7⟩
      obtain ⟨r, x, hx, hpm, hh, hc⟩ := pop_last h6 hlen1 h7 (Nat.le_trans hBw h6.bel.size)
      have HX := Lib.hid hx
      have hm := m_pop H w5
      have H6 := Lib.hid h6
      have HC := Lib.hid hc
      have HR := Lib.hid (And.intro hpm hh)
      clear hc hpm hh hx h6 h7 HU
      go_wp2_with fail
      refine HC.out.mono ?_
      rintro _ w4 ⟨rfl, v4, h4, b4, f4⟩
      have HE := Lib.hid (And.intro h4 (And.intro b4 f4))
      clear h4 b4 f4
      go_wp2
      go_ret
      refine ⟨by rw [← HX.out]; rfl, _, r, HE.out.1, by rw [← HX.out]; exact HR.out.1.trans HPm.out, HR.out.2, (HF.out.1.trans H6.out.bel).trans HE.out.2.1, HF.out.2.trans ?_⟩
      have := H6.out.fr.trans HE.out.2.2
      rw [hlen1] at this
      exact this
set_option maxRecDepth 20000 in
set_option maxHeartbeats 2000000 in
theorem hpop_any (B H : Nat) (v : Value) (l : List (Int × Int)) (W : World) (h : HpO B W H v l) (hB : B ≤ W.heap.size) (h0 : 0 < l.length) (hp : Hp l.length l) :
    Calls Tryz.prog 66 #[IH H] W fun e w' => e = .returned (.iface TRn (.agg #[.int .u64 l[0].1, .int .u64 l[0].2])) ∧ ∃ v' r, HpO B w' H v' r ∧ (l[0] :: r).Perm l ∧ Hp r.length r ∧ Below B W w' ∧ Fr H v v' W w' := by
  obtain ⟨n, hn⟩ : ∃ n, l.length = n + 1 := ⟨l.length - 1, by omega⟩
  obtain ⟨g, cap, rfl, hg⟩ := own_block h.row (by omega)
  have hl := m_len H _ W (cell_of_row W H 0 _ _ (0, 0) h.box)
  have hfew := h.few
  have hgi : l[0] = l.getD 0 (0, 0) := by simp [List.getD_eq_getElem?_getD, h0]
  rw [hgi]
  have hs := m_swap H _ W (cell_of_row W H 0 _ _ (0, 0) h.box)
  have HSw := Lib.hid (swapH B H g cap l.length 0 n l (by omega) (by omega) W h)
  have hD : DnI n 0 (sw l 0 n) := by
    by_cases e : 0 < n
    · exact dn_start (n := n) (i := 0) (hn ▸ hp) e hn
    · exact ⟨fun k k0 kn => by omega, fun k k0 kn => by omega⟩
  have hD := Lib.hid hD
  have hXe := sw_last (i := 0) hn
  have hPm := sw_perm l 0 n (by omega) (by omega)
  have hlen1 : (sw l 0 n).length = n + 1 := by rw [sw_len]; exact hn
  generalize sw l 0 n = l1 at *
  rw [← hXe]
  have HPm := Lib.hid hPm
  clear hXe hPm hp h hgi
  rw [hn] at hl hs HSw ⊢
  unfold IH
  go_enter Tryz.func66, Tryz.ntmps66
  go_wp2_with fail
  refine (rlen_any _ _ _ _).mono ?_
  rintro _ w1 ⟨rfl, rfl⟩
  go_wp2_with fail
  refine HSw.out.mono ?_
  rintro _ w2 ⟨rfl, h2, b2, f2⟩
  have HF := Lib.hid (And.intro b2 f2)
  rw [← hlen1] at h2
  have HS0 := Lib.hid (HS.start (n := n) h2)
  have hBw : B ≤ w2.heap.size := Nat.le_trans hB b2.size
  clear h2 b2 f2 hl hs
  go_wp2_with fail
  refine (down_any B H g cap n l1 0 w2 w2 l1 HS0.out (by omega) (by omega) hD.out).mono ?_
  rintro _ w3 ⟨b, rfl, m, h3, h4, h5⟩
  have hBw3 : B ≤ w3.heap.size := Nat.le_trans hBw h3.bel.size
  have hHp : Hp n m := by
    cases b
    · exact up_zero (h5 rfl)
    · exact h4 rfl
  obtain ⟨r, x, hx, hpm, hh, hc⟩ := pop_last h3 hlen1 hHp hBw3
  have HX := Lib.hid hx
  have hm := m_pop H w3
  have H3 := Lib.hid h3
  have HC := Lib.hid hc
  have HR := Lib.hid (And.intro hpm hh)
  clear hc hpm hh hx h3 h4 h5 hHp
  go_wp2_with fail
  refine HC.out.mono ?_
  rintro _ w4 ⟨rfl, v4, h4, b4, f4⟩
  have HE := Lib.hid (And.intro h4 (And.intro b4 f4))
  clear h4 b4 f4
  go_wp2
  go_ret
  refine ⟨by rw [← HX.out]; rfl, _, r, HE.out.1, by rw [← HX.out]; exact HR.out.1.trans HPm.out, HR.out.2, (HF.out.1.trans H3.out.bel).trans HE.out.2.1, HF.out.2.trans ?_⟩
  have := H3.out.fr.trans HE.out.2.2
  rw [hlen1] at this
  exact this
end Go.Proofs.YtpkkomifenlkaaaGreat.Gp
