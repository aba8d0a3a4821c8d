/- slices.Equal and slices.Clone of bools. -/
import Derived.Test.YtnidafgjbocfcaaConfPlainRow
import Derived.Deep.AppendLies
namespace Go.Proofs.Ytnidafgjbocfcaa.Conf
open Go.RowKit

/-- A row of bools in memory. -/
def Bl (w : World) (A : Option Addr) (n : Nat) (bs : List Bool) : Prop :=
  bs.length = n ∧ (0 < n → ∃ b off, A = some ⟨b, off, none⟩ ∧ b < w.heap.size ∧ ∀ i, i < n → w.cell? ⟨b, off + i, none⟩ = some (.bool (bs.getD i false)))
theorem Bl.below {w w' : World} {A : Option Addr} {n : Nat} {bs : List Bool} (h : Bl w A n bs) (hb : Below w.heap.size w w') : Bl w' A n bs :=
  ⟨h.1, fun hl => by
    obtain ⟨b, off, rfl, hbl, hc⟩ := h.2 hl
    exact ⟨b, off, rfl, Nat.lt_of_lt_of_le hbl hb.size, fun i hi => (hb.cell (p := ⟨b, off + i, none⟩) hbl).trans (hc i hi)⟩⟩
def vb (bs : List Bool) : List Value := bs.map Value.bool
theorem vb_at (bs : List Bool) (j : Nat) (h : j < bs.length) : (vb bs)[j]? = some (.bool (bs.getD j false)) := by
  unfold vb
  rw [List.getElem?_map, List.getElem?_eq_getElem h, List.getD_eq_getElem?_getD, List.getElem?_eq_getElem h]; rfl
theorem bl_of_own {w : World} {B n cap : Nat} {A : Option Addr} {bs : List Bool} (h : w.ownsRow B 4 1 (.slice A n cap) n (vb bs)) : Bl w A n bs := by
  have hl : bs.length = n := by have := h.1; simp [vb] at this; omega
  refine ⟨hl, fun h0 => ?_⟩
  obtain ⟨g, cap', hv, _, hgl⟩ := h.form h0
  injection hv with hA _ _
  subst hA
  exact ⟨g, 0, rfl, hgl, fun i hi => by rw [Nat.zero_add]; exact (h.cellAt i (by omega)).trans (vb_at bs i (by omega))⟩
theorem below_drew2 (w : World) (q : Nat) : Below w.heap.size w (w.drewN q) := ⟨rfl, rfl, rfl, Nat.le_refl _, fun _ _ => rfl⟩

theorem drewN2 (w : World) (q r : Nat) : (w.drewN q).drewN r = w.drewN (q + r) := by simp [World.drewN, Nat.add_assoc]
set_option maxHeartbeats 1000000 in
theorem equal_any (A B : Option Addr) (n m c d : Nat) (xs ys : List Bool) (hn : n ≤ 9223372036854775807) (w : World) (ha : Bl w A n xs) (hb : Bl w B m ys) :
    Calls Try.prog 62 #[.slice A n c, .slice B m d] w fun e w' => e = .returned (.bool (xs == ys)) ∧ ∃ q, w' = w.drewN q := by
  by_cases hnm : n = m
  · subst hnm
    have HA := Lib.hid ha
    have HB := Lib.hid hb
    clear ha hb
    go_enter Try.func62, Try.ntmps62
    go_wp2
    go_loopw [13] (fun i wr => ∃ k : Nat, i = .int .i64 (k : Int) ∧ k ≤ n ∧ Hid (xs.take k = ys.take k) ∧ ∃ q, wr = w.drewN q) (fun i _ => n - (intOf i).toNat)
    case atStart => exact ⟨0, rfl, Nat.zero_le _, Lib.hid (by simp), 0, rfl⟩
    case round =>
      obtain ⟨k, rfl, hk, ht, q, rfl⟩ := hrel
      by_cases hlt : k < n
      · obtain ⟨b, off, rfl, _, hc⟩ := HA.out.2 (by omega)
        obtain ⟨b', off', rfl, _, hc'⟩ := HB.out.2 (by omega)
        have hck := hc k hlt
        have hck' := hc' k hlt
        clear hc hc'
        have hi0 : (0 : Int) ≤ (k : Int) := by omega
        have hi1 : (k : Int) < (n : Int) := by omega
        have hlx := HA.out.1
        have hly := HB.out.1
        have HX := Lib.hid (show xs.take (k + 1) = xs.take k ++ [xs.getD k false] by rw [List.take_succ_eq_append_getElem (by omega), List.getD_eq_getElem?_getD, List.getElem?_eq_getElem (by omega)]; rfl)
        have HY := Lib.hid (show ys.take (k + 1) = ys.take k ++ [ys.getD k false] by rw [List.take_succ_eq_append_getElem (by omega), List.getD_eq_getElem?_getD, List.getElem?_eq_getElem (by omega)]; rfl)
        have HN := Lib.hid (show xs.getD k false ≠ ys.getD k false → (xs == ys) = false from fun h => by
          cases hq : (xs == ys) with
          | false => rfl
          | true => rw [eq_of_beq hq] at h; exact absurd rfl h)
        clear hlx hly
        obtain ⟨x, hx⟩ : ∃ x, x = xs.getD k false := ⟨_, rfl⟩
        obtain ⟨y, hy⟩ : ∃ y, y = ys.getD k false := ⟨_, rfl⟩
        rw [← hx] at hck HX HN
        rw [← hy] at hck' HY HN
        clear hx hy
        cases x <;> cases y
        · go_wp2
          go_quiet (fail)
          go_wp2
          exact ⟨⟨k + 1, by go_num, by omega, Lib.hid (by rw [HX.out, HY.out, ht.out]), _, rfl⟩, by simp [intOf]; omega⟩
        · go_wp2
          go_quiet (fail)
          go_wp2
          go_ret
          exact ⟨by rw [HN.out (by decide)]; rfl, _, drewN2 _ _ _⟩
        · go_wp2
          go_quiet (fail)
          go_wp2
          go_ret
          exact ⟨by rw [HN.out (by decide)]; rfl, _, drewN2 _ _ _⟩
        · go_wp2
          go_quiet (fail)
          go_wp2
          exact ⟨⟨k + 1, by go_num, by omega, Lib.hid (by rw [HX.out, HY.out, ht.out]), _, rfl⟩, by simp [intOf]; omega⟩
      · obtain rfl : k = n := by omega
        have hq := Lib.hid (show (xs == ys) = true by
          have := ht.out
          rw [List.take_of_length_le (by rw [HA.out.1]; exact Nat.le_refl _), List.take_of_length_le (by rw [HB.out.1]; exact Nat.le_refl _)] at this
          rw [this]; simp)
        go_wp2
        go_ret
        exact ⟨by rw [hq.out]; rfl, _, rfl⟩
  · have hq := Lib.hid (show (xs == ys) = false by
      cases hq : (xs == ys) with
      | false => rfl
      | true => exact absurd (by rw [← ha.1, ← hb.1, eq_of_beq hq]) hnm)
    have hnm2 : ((n : Int) == (m : Int)) = false := by simp; omega
    clear ha hb
    go_enter Try.func62, Try.ntmps62
    go_wp2
    go_ret
    exact ⟨by rw [hq.out]; rfl, 0, rfl⟩

theorem nilB (n c : Nat) (w : World) : (binOp .eql 51 (.slice none n c) (.slice none 0 0)).run Try.prog w = .ok (.bool true) w := by kernel_rfl
theorem someB (a : Addr) (n c : Nat) (w : World) : (binOp .eql 51 (.slice (some a) n c) (.slice none 0 0)).run Try.prog w = .ok (.bool false) w := by kernel_rfl
set_option maxRecDepth 100000 in
set_option maxHeartbeats 1000000 in
theorem clone_any (A : Option Addr) (n c : Nat) (xs : List Bool) (hn : n ≤ 20) (w : World) (ha : Bl w A n xs) :
    Calls Try.prog 61 #[.slice A n c] w fun e w' => ∃ A' c', e = .returned (.slice A' n c') ∧ w'.ownsRow w.heap.size 4 1 (.slice A' n c') n (vb xs) ∧ Below w.heap.size w w' := by
  have e1 := nilB
  have e2 := someB
  cases A with
  | none =>
    have h0 : n = 0 := by
      rcases Nat.eq_zero_or_pos n with h | h
      · exact h
      · obtain ⟨b, off, h1, _⟩ := ha.2 h; cases h1
    subst h0
    have hx : xs = [] := List.eq_nil_of_length_eq_zero ha.1
    subst hx
    go_enter Try.func61, Try.ntmps61
    go_wp2
    go_ret
    exact ⟨none, 0, rfl, World.ownsRow_nil _ _ _ _, Below.refl _ _⟩
  | some a =>
    obtain ⟨i0, hi, hz0, hz1, hz2⟩ := info_parts infoB
    have hb1 : Below w.heap.size w (w.alloc (.cells #[] 4)) := (Below.refl _ _).alloc (Nat.le_refl _) _
    have hown : (w.alloc (.cells #[] 4)).ownsRow w.heap.size 4 1 (.slice (some ⟨w.heap.size, 0, none⟩) 0 0) 0 [] :=
      ⟨rfl, Or.inr ⟨w.heap.size, 0, #[], rfl, Nat.le_refl _, heap_alloc_new w _, Nat.le_refl _, by decide, rfl, rfl⟩⟩
    have hnews : ∀ (j : Nat) (u : Value), (vb xs)[j]? = some u → (w.alloc (.cells #[] 4)).cell? (a.add j) = some u := by
      intro j u hu
      have hj : j < xs.length := by
        have := (List.getElem?_eq_some_iff.1 hu).1
        simpa [vb] using this
      obtain ⟨b, off, h1, hbl, hc⟩ := ha.2 (by have := ha.1; omega)
      injection h1 with h1
      subst h1
      rw [vb_at xs j hj] at hu
      rw [← hu, show (⟨b, off, none⟩ : Addr).add j = ⟨b, off + j, none⟩ by unfold Addr.add; by_cases h : j = 0 <;> simp [h]]
      exact (hb1.cell (p := ⟨b, off + j, none⟩) hbl).trans (hc j (by have := ha.1; omega))
    have hl : (vb xs).length = n * 1 := by simp [vb, ha.1]
    have h1c : ∀ u ∈ vb xs, u.oneCell' = true := by intro u hu; simp only [vb, List.mem_map] at hu; obtain ⟨b, _, rfl⟩ := hu; rfl
    have hk1 : 0 + n ≤ maxLen := by simp only [maxLen]; omega
    have hk2 : (0 + n) * 1 ≤ 140737488355328 := by omega
    go_enter Try.func61, Try.ntmps61
    go_wp2_with (at_builtin; refine wpList_append_own _ rfl _ _ 51 rfl w.heap.size 4 i0 (.bool false) 1 1 Try.underlying51 hi hz0 hz1 hz2 rfl (by decide) _ _ _ rfl hown a n c (vb xs) rfl hl hnews h1c hk1 hk2 (by simp) ?_)
    intro v1 w1 hown1 hgr _
    have hB := Lib.hid (hb1.grown hgr (by simp) (own_ge hown))
    obtain ⟨A1, c1, rfl⟩ := own_form hown1
    have HO := Lib.hid hown1
    clear hown1 hgr
    go_wp2
    go_ret
    exact ⟨A1, c1, rfl, HO.out, hB.out⟩

end Go.Proofs.Ytnidafgjbocfcaa.Conf
