/- gap: container/heap's Push, Remove, Pop at any many runs. -/
import Derived.Test.YtlgbendncgboiaaGap16
namespace Go.Proofs.Ytlgbendncgboiaa.Gp
open Go Go.RowKit Gm

set_option maxRecDepth 20000 in
set_option maxHeartbeats 2000000 in
theorem hpush_any (B H : Nat) (v : Value) (l : List (Int × Int)) (x : Int × Int) (W : World) (h : HpO B W H v l) (hB : B ≤ W.heap.size) (hf : l.length < 1000) (hp : Hp l.length l) :
    Calls Try.prog 20 #[IH H, .iface TRn (.agg #[.int .u64 x.1, .int .u64 x.2])] W fun e w' => e = .returned (.tuple #[]) ∧ ∃ v' l', HpO B w' H v' l' ∧ l'.Perm (x :: l) ∧ Hp l'.length l' ∧ Below B W w' ∧ Fr H v v' W w' := by
  have hm := m_push H W
  have HPu := Lib.hid (push_any B H v l x W h hB hf)
  have HH := Lib.hid hp
  clear h hp
  unfold IH
  go_enter Try.func20, Try.ntmps20
  go_wp2_with fail
  refine HPu.out.mono ?_
  rintro _ w1 ⟨rfl, v1, hP1, b1, fr1⟩
  have hlen : (l ++ [x]).length = l.length + 1 := by simp
  have hr := hP1.row
  rw [hlen] at hr
  obtain ⟨g, cap, rfl, hg⟩ := own_block hr (by omega)
  have hl := m_len H _ w1 (cell_of_row w1 H 0 _ _ (0, 0) hP1.box)
  have HS0 := Lib.hid (HS.start (B := B) (H := H) (g := g) (cap := cap) (n := (l ++ [x]).length) (l0 := l ++ [x]) (by rw [hlen]; exact hP1))
  have hb3 := Lib.hid (And.intro b1 fr1)
  clear hP1 b1 fr1 hm HPu hr
  go_wp2_with fail
  refine (rlen_any _ _ _ _).mono ?_
  rintro _ w2 ⟨rfl, rfl⟩
  go_wp2_with fail
  refine (up_any B H g cap (l ++ [x]).length (l ++ [x]) l.length _ _ (l ++ [x]) HS0.out (Nat.le_refl _) (by omega) (by rw [hlen]; exact up_push x HH.out)).mono ?_
  rintro _ w3 ⟨rfl, m, h3, h4⟩
  have HE := Lib.hid (And.intro h3 h4)
  clear h3 h4
  go_wp2
  go_end0
  refine ⟨rfl, _, m, HE.out.1.hp, HE.out.1.perm.trans (List.perm_append_singleton x l), ?_, hb3.out.1.trans HE.out.1.bel, ?_⟩
  · rw [HE.out.1.len]
    exact HE.out.2
  · have := HE.out.1.fr
    rw [hlen] at this ⊢
    exact hb3.out.2.trans this
/-- the last one goes -/
theorem pop_last {B H g cap n : Nat} {l0 : List (Int × Int)} {W0 W : World} {m : List (Int × Int)} (hs : HS B H g cap n l0 W0 m W) (hn : l0.length = n + 1) (hp : Hp n m) (hB : B ≤ W.heap.size) :
    ∃ r x, x = l0.getD n (0, 0) ∧ (x :: r).Perm l0 ∧ Hp r.length r ∧ Calls Try.prog 71 #[.pointer (some ⟨H, 0, none⟩)] W fun e w' => e = .returned (.iface TRn (.agg #[.int .u64 x.1, .int .u64 x.2])) ∧ ∃ v', HpO B w' H v' r ∧ Below B W w' ∧ Fr H (.slice (some ⟨g, 0, none⟩) l0.length cap) v' W w' := by
  obtain ⟨r, x, rfl, h1, h2⟩ := last_of (hs.len.trans hn)
  refine ⟨r, x, h2.trans (hs.rest n (Nat.le_refl _)), (List.perm_append_singleton x r).symm.trans hs.perm, ?_, pop_any B H _ r x W hs.hp hB⟩
  rw [← h1] at hp
  exact hp_pop hp
set_option maxRecDepth 20000 in
set_option maxHeartbeats 2000000 in
theorem hrem_any (B H : Nat) (v : Value) (l : List (Int × Int)) (i : Nat) (W : World) (h : HpO B W H v l) (hB : B ≤ W.heap.size) (hi : i < l.length) (hp : Hp l.length l) :
    Calls Try.prog 29 #[IH H, .int .i64 (i : Int)] W fun e w' => e = .returned (.iface TRn (.agg #[.int .u64 l[i].1, .int .u64 l[i].2])) ∧ ∃ v' r, HpO B w' H v' r ∧ (l[i] :: r).Perm l ∧ Hp r.length r ∧ Below B W w' ∧ Fr H v v' W w' := by
  obtain ⟨n, hn⟩ : ∃ n, l.length = n + 1 := ⟨l.length - 1, by omega⟩
  obtain ⟨g, cap, rfl, hg⟩ := own_block h.row (by omega)
  have hl := m_len H _ W (cell_of_row W H 0 _ _ (0, 0) h.box)
  have hfew := h.few
  have hgi : l[i] = l.getD i (0, 0) := by simp [List.getD_eq_getElem?_getD, hi]
  rw [hgi]
  by_cases hin : i = n
  · subst hin
    obtain ⟨r, x, hx, hpm, hh, hc⟩ := pop_last (HS.start (n := i) h) hn (hp_less hp (by omega)) hB
    have hm := m_pop H W
    have HX := Lib.hid hx
    have HC := Lib.hid hc
    have HR := Lib.hid (And.intro hpm hh)
    rw [hn] at hl
    clear hc hpm hh hp h hx hgi
    unfold IH
    go_enter Try.func29, Try.ntmps29
    go_wp2_with fail
    refine (rlen_any _ _ _ _).mono ?_
    rintro _ w2 ⟨rfl, rfl⟩
    go_wp2_with fail
    refine HC.out.mono ?_
    rintro _ w3 ⟨rfl, v3, h3, b3, f3⟩
    have HE := Lib.hid (And.intro h3 (And.intro b3 f3))
    clear h3 b3 f3
    go_wp2
    go_ret
    exact ⟨by rw [← HX.out]; rfl, _, r, HE.out.1, by rw [← HX.out]; exact HR.out.1, HR.out.2, HE.out.2.1, HE.out.2.2⟩
  · have hilt : i < n := by omega
    have hne : ¬ (n : Int) = (i : Int) := by omega
    have hs := m_swap H _ W (cell_of_row W H 0 _ _ (0, 0) h.box)
    have HSw := Lib.hid (swapH B H g cap l.length i n l (by omega) (by omega) W h)
    have hD := dn_start (n := n) (i := i) (hn ▸ hp) hilt hn
    have hD := Lib.hid hD
    have hXe := sw_last (i := i) hn
    have hPm := sw_perm l i n (by omega) (by omega)
    have hlen1 : (sw l i n).length = n + 1 := by rw [sw_len]; exact hn
    generalize sw l i n = l1 at *
    rw [← hXe]
    have HPm := Lib.hid hPm
    clear hXe hPm hp h
    rw [hn] at hl hs HSw ⊢
    unfold IH
    go_enter Try.func29, Try.ntmps29
    go_wp2_with fail
    refine (rlen_any _ _ _ _).mono ?_
    rintro _ w1 ⟨rfl, rfl⟩
    go_wp2_with fail
    refine HSw.out.mono ?_
    rintro _ w2 ⟨rfl, h2, b2, f2⟩
    have HF := Lib.hid (And.intro b2 f2)
    rw [← hlen1] at h2
    have HS0 := Lib.hid (HS.start (n := n) h2)
    have hBw : B ≤ w2.heap.size := Nat.le_trans hB b2.size
    clear h2 b2 f2 hl hs
    go_wp2_with fail
    refine (down_any B H g cap n l1 i w2 w2 l1 HS0.out (by omega) (by omega) hD.out).mono ?_
    rintro _ w3 ⟨b, rfl, m, h3, h4, h5⟩
    have H3 := Lib.hid (And.intro h3 (And.intro h4 h5))
    have hBw3 : B ≤ w3.heap.size := Nat.le_trans hBw h3.bel.size
    clear h3 h4 h5
    cases b with
    | true =>
      obtain ⟨r, x, hx, hpm, hh, hc⟩ := pop_last H3.out.1 hlen1 (H3.out.2.1 rfl) hBw3
      have HX := Lib.hid hx
      have hm := m_pop H w3
      have HC := Lib.hid hc
      have HR := Lib.hid (And.intro hpm hh)
      clear hc hpm hh hx
      go_wp2_with fail
      refine HC.out.mono ?_
      rintro _ w4 ⟨rfl, v4, h4, b4, f4⟩
      have HE := Lib.hid (And.intro h4 (And.intro b4 f4))
      clear h4 b4 f4
      go_wp2
      go_ret
      refine ⟨by rw [← HX.out]; rfl, _, r, HE.out.1, by rw [← HX.out]; exact HR.out.1.trans HPm.out, HR.out.2, (HF.out.1.trans H3.out.1.bel).trans HE.out.2.1, HF.out.2.trans ?_⟩
      have := H3.out.1.fr.trans HE.out.2.2
      rw [hlen1] at this
      exact this
    | false =>
      have HU := Lib.hid (up_any B H g cap n m i w3 w2 l1 H3.out.1 (by omega) hilt (H3.out.2.2 rfl))
      go_wp2_with fail
      refine HU.out.mono ?_
      rintro _ w5 ⟨rfl, m5, h6, h7⟩
      obtain ⟨r, x, hx, hpm, hh, hc⟩ := pop_last h6 hlen1 h7 (Nat.le_trans hBw h6.bel.size)
      have HX := Lib.hid hx
      have hm := m_pop H w5
      have H6 := Lib.hid h6
      have HC := Lib.hid hc
      have HR := Lib.hid (And.intro hpm hh)
      clear hc hpm hh hx h6 h7 HU
      go_wp2_with fail
      refine HC.out.mono ?_
      rintro _ w4 ⟨rfl, v4, h4, b4, f4⟩
      have HE := Lib.hid (And.intro h4 (And.intro b4 f4))
      clear h4 b4 f4
      go_wp2
      go_ret
      refine ⟨by rw [← HX.out]; rfl, _, r, HE.out.1, by rw [← HX.out]; exact HR.out.1.trans HPm.out, HR.out.2, (HF.out.1.trans H6.out.bel).trans HE.out.2.1, HF.out.2.trans ?_⟩
      have := H6.out.fr.trans HE.out.2.2
      rw [hlen1] at this
      exact this
set_option maxRecDepth 20000 in
set_option maxHeartbeats 2000000 in
theorem hpop_any (B H : Nat) (v : Value) (l : List (Int × Int)) (W : World) (h : HpO B W H v l) (hB : B ≤ W.heap.size) (h0 : 0 < l.length) (hp : Hp l.length l) :
    Calls Try.prog 21 #[IH H] W fun e w' => e = .returned (.iface TRn (.agg #[.int .u64 l[0].1, .int .u64 l[0].2])) ∧ ∃ v' r, HpO B w' H v' r ∧ (l[0] :: r).Perm l ∧ Hp r.length r ∧ Below B W w' ∧ Fr H v v' W w' := by
  obtain ⟨n, hn⟩ : ∃ n, l.length = n + 1 := ⟨l.length - 1, by omega⟩
  obtain ⟨g, cap, rfl, hg⟩ := own_block h.row (by omega)
  have hl := m_len H _ W (cell_of_row W H 0 _ _ (0, 0) h.box)
  have hfew := h.few
  have hgi : l[0] = l.getD 0 (0, 0) := by simp [List.getD_eq_getElem?_getD, h0]
  rw [hgi]
  have hs := m_swap H _ W (cell_of_row W H 0 _ _ (0, 0) h.box)
  have HSw := Lib.hid (swapH B H g cap l.length 0 n l (by omega) (by omega) W h)
  have hD : DnI n 0 (sw l 0 n) := by
    by_cases e : 0 < n
    · exact dn_start (n := n) (i := 0) (hn ▸ hp) e hn
    · exact ⟨fun k k0 kn => by omega, fun k k0 kn => by omega⟩
  have hD := Lib.hid hD
  have hXe := sw_last (i := 0) hn
  have hPm := sw_perm l 0 n (by omega) (by omega)
  have hlen1 : (sw l 0 n).length = n + 1 := by rw [sw_len]; exact hn
  generalize sw l 0 n = l1 at *
  rw [← hXe]
  have HPm := Lib.hid hPm
  clear hXe hPm hp h hgi
  rw [hn] at hl hs HSw ⊢
  unfold IH
  go_enter Try.func21, Try.ntmps21
  go_wp2_with fail
  refine (rlen_any _ _ _ _).mono ?_
  rintro _ w1 ⟨rfl, rfl⟩
  go_wp2_with fail
  refine HSw.out.mono ?_
  rintro _ w2 ⟨rfl, h2, b2, f2⟩
  have HF := Lib.hid (And.intro b2 f2)
  rw [← hlen1] at h2
  have HS0 := Lib.hid (HS.start (n := n) h2)
  have hBw : B ≤ w2.heap.size := Nat.le_trans hB b2.size
  clear h2 b2 f2 hl hs
  go_wp2_with fail
  refine (down_any B H g cap n l1 0 w2 w2 l1 HS0.out (by omega) (by omega) hD.out).mono ?_
  rintro _ w3 ⟨b, rfl, m, h3, h4, h5⟩
  have hBw3 : B ≤ w3.heap.size := Nat.le_trans hBw h3.bel.size
  have hHp : Hp n m := by
    cases b
    · exact up_zero (h5 rfl)
    · exact h4 rfl
  obtain ⟨r, x, hx, hpm, hh, hc⟩ := pop_last h3 hlen1 hHp hBw3
  have HX := Lib.hid hx
  have hm := m_pop H w3
  have H3 := Lib.hid h3
  have HC := Lib.hid hc
  have HR := Lib.hid (And.intro hpm hh)
  clear hc hpm hh hx h3 h4 h5 hHp
  go_wp2_with fail
  refine HC.out.mono ?_
  rintro _ w4 ⟨rfl, v4, h4, b4, f4⟩
  have HE := Lib.hid (And.intro h4 (And.intro b4 f4))
  clear h4 b4 f4
  go_wp2
  go_ret
  refine ⟨by rw [← HX.out]; rfl, _, r, HE.out.1, by rw [← HX.out]; exact HR.out.1.trans HPm.out, HR.out.2, (HF.out.1.trans H3.out.bel).trans HE.out.2.1, HF.out.2.trans ?_⟩
  have := H3.out.fr.trans HE.out.2.2
  rw [hlen1] at this
  exact this
end Go.Proofs.Ytlgbendncgboiaa.Gp
