/- The page's pool of transactions: Take. -/
import Derived.Test.YtjjomlideieofaaPoolHas
namespace Go.Proofs.Ytjjomlideieofaa.Msg
open Go Go.RowKit

def RTake (w : World) (base g : Nat) (most : Int) (qs : List T4) (m : Nat) (e : Ending) (w' : World) : Prop :=
  ∃ u A c, e = .returned u ∧ w'.ownsRow w.heap.size TT 4 u m (tcells (qs.take m)) ∧ Rp w' base g most A c (qs.drop m) ∧ Only g w w' ∧ Below base w w'

/-- Between two rounds of the page's Take. -/
structure RT (w W : World) (k r m : Nat) (vo vl : Value) (qs : List T4) : Prop where
  req : r = min k m
  out : W.ownsRow w.heap.size TT 4 vo r (tcells (qs.take r))
  left : W.ownsRow w.heap.size TT 4 vl (k - m) (tcells ((qs.drop m).take (k - m)))
  nl : k ≤ m → vl = .slice none 0 0
  ap : vo.ownBlock = none ∨ vo.ownBlock ≠ vl.ownBlock
  bel : Below w.heap.size w W

theorem RT.toOut {w W W2 : World} {k r m : Nat} {vo vo' vl : Value} {qs : List T4} {x : T4} (h : RT w W k r m vo vl qs) (hk : k < m) (hq : k < qs.length) (hx : qs[k] = x)
    (hrow : W2.ownsRow w.heap.size TT 4 vo' (r + 1) (tcells (qs.take r) ++ x.cells.toList)) (hg : (W.alloc (.cells x.cells TT)).grownBy W2 vo.ownBlock) : RT w W2 (k + 1) (r + 1) m vo' vl qs := by
  have hb : Below w.heap.size w W2 := (h.bel.alloc h.bel.size _).grown hg (by have := h.bel.size; simp; omega) (fun j hj => own_ge h.out j hj)
  have hn := h.nl (by omega)
  subst hn
  have e : r = k := by have := h.req; omega
  subst e
  refine ⟨by omega, ?_, ?_, fun _ => rfl, ?_, hb⟩
  · rw [List.take_succ_eq_append_getElem hq, tcells_snoc, hx]
    exact hrow
  · rw [show r + 1 - m = 0 by omega]
    exact World.ownsRow_nil _ _ _ _
  · cases hv : vo'.ownBlock with
    | none => exact .inl rfl
    | some j => exact .inr (by simp [Value.ownBlock])

theorem RT.toLeft {w W W2 : World} {k r m : Nat} {vo vl vl' : Value} {qs : List T4} {x : T4} (h : RT w W k r m vo vl qs) (hk : m ≤ k) (hq : k < qs.length) (hx : qs[k] = x)
    (hrow : W2.ownsRow w.heap.size TT 4 vl' (k - m + 1) (tcells ((qs.drop m).take (k - m)) ++ x.cells.toList)) (hg : (W.alloc (.cells x.cells TT)).grownBy W2 vl.ownBlock) (hloc : vl'.ownBlock = vl.ownBlock ∨ vl'.ownBlock = some (W.heap.size + 1)) : RT w W2 (k + 1) r m vo vl' qs := by
  have hb : Below w.heap.size w W2 := (h.bel.alloc h.bel.size _).grown hg (by have := h.bel.size; simp; omega) (fun j hj => own_ge h.left j hj)
  refine ⟨by have := h.req; omega, own_apart (h.out.alloc _) h.ap hg, ?_, fun _ => by omega, ?_, hb⟩
  · have hd : k - m < (qs.drop m).length := by rw [List.length_drop]; omega
    have hx2 : (qs.drop m)[k - m] = x := by
      rw [List.getElem_drop]
      have e2 : m + (k - m) = k := by omega
      simp only [e2]
      exact hx
    rw [show k + 1 - m = k - m + 1 by omega, List.take_succ_eq_append_getElem hd, tcells_snoc, hx2]
    exact hrow
  · rcases hloc with hl | hl
    · rw [hl]; exact h.ap
    · cases hv : vo.ownBlock with
      | none => exact .inl rfl
      | some j =>
        right
        rw [hl]
        intro e
        injection e with e
        have := (h.out.lt j hv).2
        omega

set_option maxRecDepth 100000 in
set_option maxHeartbeats 8000000 in
theorem rtake_any {w : World} {base g c : Nat} {most : Int} {A : Option Addr} {qs : List T4} (h : Rp w base g most A c qs) (hl : qs.length ≤ 32) (n : Int) (m : Nat) (hm : m = min n.toNat qs.length) :
    Calls Try.prog 16 #[.pointer (some ⟨g, 0, none⟩), .int .i64 n] w (RTake w base g most qs m) := by
  obtain ⟨i1, hi1, hy0, hy1, hy2⟩ := info_parts infoT
  have HP := Lib.hid h
  have HX := Lib.hid h.rdx
  have hbw : base ≤ w.heap.size := by have := h.hg; have := lt_blk h.blk; omega
  have hgl : g < w.heap.size := lt_blk h.blk
  obtain ⟨c0, c1⟩ := h.cells
  obtain ⟨len, hn⟩ : ∃ len, len = qs.length := ⟨_, rfl⟩
  rw [← hn] at c0 hl hm
  have HN := Lib.hid hn
  clear h hn
  by_cases h1 : n < 1
  · have hm0 : m = 0 := by omega
    subst hm0
    go_enter Try.func16, Try.ntmps16
    go_wp2
    go_ret
    exact ⟨_, _, _, rfl, World.ownsRow_nil _ _ _ _, HP.out, Only.refl g w, Below.refl _ _⟩
  · obtain ⟨s, hs⟩ : ∃ s : Int, (n = s ∧ (m : Int) = s ∧ ¬ (len : Int) < n ∨ (len : Int) = s ∧ m = len ∧ (len : Int) < n) := by
      by_cases hgt : (len : Int) < n
      · exact ⟨_, .inr ⟨rfl, by omega, hgt⟩⟩
      · exact ⟨_, .inl ⟨rfl, by omega, hgt⟩⟩
    have hmle : m ≤ len := by omega
    have HM := Lib.hid hm
    clear hm
    rcases hs with ⟨hns, hms, hcmp⟩ | ⟨hns, hms, hcmp⟩
    · subst hns
      subst hms
      go_enter Try.func16, Try.ntmps16
      go_wp2
      go_loopw [5, 6, 7] (fun vo vl i wr => ∃ k r : Nat, i = .int .i64 (k : Int) ∧ k ≤ len ∧ Hid (RT w wr k r m vo vl qs)) (fun _ _ i _ => len - (intOf i).toNat)
      case atStart => exact ⟨0, 0, rfl, Nat.zero_le _, Lib.hid ⟨by omega, World.ownsRow_nil _ _ _ _, by rw [Nat.zero_sub]; exact World.ownsRow_nil _ _ _ _, fun _ => rfl, .inl rfl, Below.refl _ _⟩⟩
      case round =>
        obtain ⟨k, r, rfl, hk, hrt⟩ := hrel
        have hr32 : r ≤ 32 := by have := hrt.out.req; omega
        obtain ⟨Ao, co, hvo⟩ := own_formN hrt.out.out
        obtain ⟨Al, cl, hvl⟩ := own_formN hrt.out.left
        subst hvo
        subst hvl
        have HPr := Lib.hid (HP.out.below hrt.out.bel)
        obtain ⟨d0, d1⟩ := HPr.out.cells
        rw [← HN.out] at d0
        by_cases hlt : k < len
        · have hkt : k < qs.length := by have := HN.out; omega
          have hi0 : (0 : Int) ≤ (k : Int) := by omega
          have hkn : (k : Int) < (len : Int) := by omega
          obtain ⟨b, off, hAe, hbl, a0, a1, a2, a3⟩ := (HX.out.below hrt.out.bel).at hkt
          obtain ⟨x, hx⟩ : ∃ x, qs[k] = x := ⟨_, rfl⟩
          rw [hx] at a0 a1 a2 a3
          have HXk := Lib.hid hx
          subst hAe
          clear hx
          have hws : w.heap.size ≤ wr.heap.size := hrt.out.bel.size
          by_cases hkm : k < m
          · have hkm' : (k : Int) < (m : Int) := by omega
            have HR1 := Lib.hid hrt.out.out
            go_wp2_with (at_builtin; refine wpList_append_own_at _ rfl _ _ 34 rfl w.heap.size 40 i1 _ 4 48 Try.underlying34 hi1 hy0 hy1 hy2 rfl (by decide) _ _ _ rfl (World.ownsRow.alloc (HR1.out) _) ⟨wr.heap.size, 0, none⟩ 1 1 x.cells.toList rfl rfl (cells4_new wr x _) (cells4_one x) (by unfold maxLen; omega) (by omega) (by simp; omega) ?_)
            intro v1 w2 hown2 hg2 _ _
            have H2 := Lib.hid (hrt.out.toOut hkm hkt HXk.out hown2 hg2)
            clear hown2 hg2
            go_wp2
            first
            | exact ⟨⟨k + 1, r + 1, by go_num, by omega, H2⟩, by simp [intOf]; omega⟩
            | (rw [show k - m = 0 by omega] at H2
               exact ⟨⟨k + 1, r + 1, by go_num, by omega, H2⟩, by simp [intOf]; omega⟩)
          · have hkm' : ¬ (k : Int) < (m : Int) := by omega
            first
            | (exfalso; omega)
            | (have HR1 := Lib.hid hrt.out.left
               go_wp2_with (at_builtin; refine wpList_append_own_at _ rfl _ _ 34 rfl w.heap.size 40 i1 _ 4 48 Try.underlying34 hi1 hy0 hy1 hy2 rfl (by decide) _ _ _ rfl (World.ownsRow.alloc (HR1.out) _) ⟨wr.heap.size, 0, none⟩ 1 1 x.cells.toList rfl rfl (cells4_new wr x _) (cells4_one x) (by unfold maxLen; omega) (by omega) (by simp; omega) ?_)
               intro v1 w2 hown2 hg2 _ hloc
               have H2 := Lib.hid (hrt.out.toLeft (by omega) hkt HXk.out hown2 hg2 hloc)
               clear hown2 hg2 hloc
               go_wp2
               exact ⟨⟨k + 1, r, by go_num, by omega, H2⟩, by simp [intOf]; omega⟩)
        · have hkl : k = len := by omega
          subst hkl
          have fz := HPr.out.free 0
          go_wp2
          go_ret
          have hR := hrt.out
          have e1 : r = m := by have := hR.req; omega
          have hO := hR.out
          have hL := hR.left
          subst e1
          have e2 : ((qs.drop r).take (k - r)) = qs.drop r := List.take_of_length_le (by rw [List.length_drop]; have := HN.out; omega)
          have e3 : k - r = (qs.drop r).length := by rw [List.length_drop]; have := HN.out; omega
          rw [e2] at hL
          rw [e3] at hL
          first
          | rw [e3]
          | (have e4 : (qs.drop r).length = 0 := by rw [← e3]; omega
             rw [e4] at hL ⊢)
          refine ⟨_, _, _, rfl, own_setblk hO HPr.out.blk (by decide), ⟨HP.out.hg, ?_, own_setblk (own_base hL hbw) HPr.out.blk (by decide)⟩, (Only.below hR.bel).set _, (hR.bel.mono hbw).setCell (p := ⟨g, 0, none⟩) HP.out.hg _⟩
          simp [World.setCell, Array.getElem?_modify, HPr.out.blk] <;> (have := HN.out; omega)
    · clear hns
      subst hms
      go_enter Try.func16, Try.ntmps16
      go_wp2
      go_loopw [5, 6, 7] (fun vo vl i wr => ∃ k r : Nat, i = .int .i64 (k : Int) ∧ k ≤ m ∧ Hid (RT w wr k r m vo vl qs)) (fun _ _ i _ => m - (intOf i).toNat)
      case atStart => exact ⟨0, 0, rfl, Nat.zero_le _, Lib.hid ⟨by omega, World.ownsRow_nil _ _ _ _, by rw [Nat.zero_sub]; exact World.ownsRow_nil _ _ _ _, fun _ => rfl, .inl rfl, Below.refl _ _⟩⟩
      case round =>
        obtain ⟨k, r, rfl, hk, hrt⟩ := hrel
        have hr32 : r ≤ 32 := by have := hrt.out.req; omega
        obtain ⟨Ao, co, hvo⟩ := own_formN hrt.out.out
        obtain ⟨Al, cl, hvl⟩ := own_formN hrt.out.left
        subst hvo
        subst hvl
        have HPr := Lib.hid (HP.out.below hrt.out.bel)
        obtain ⟨d0, d1⟩ := HPr.out.cells
        rw [← HN.out] at d0
        by_cases hlt : k < m
        · have hkt : k < qs.length := by have := HN.out; omega
          have hi0 : (0 : Int) ≤ (k : Int) := by omega
          have hkn : (k : Int) < (m : Int) := by omega
          obtain ⟨b, off, hAe, hbl, a0, a1, a2, a3⟩ := (HX.out.below hrt.out.bel).at hkt
          obtain ⟨x, hx⟩ : ∃ x, qs[k] = x := ⟨_, rfl⟩
          rw [hx] at a0 a1 a2 a3
          have HXk := Lib.hid hx
          subst hAe
          clear hx
          have hws : w.heap.size ≤ wr.heap.size := hrt.out.bel.size
          by_cases hkm : k < m
          · have hkm' : (k : Int) < (m : Int) := by omega
            have HR1 := Lib.hid hrt.out.out
            go_wp2_with (at_builtin; refine wpList_append_own_at _ rfl _ _ 34 rfl w.heap.size 40 i1 _ 4 48 Try.underlying34 hi1 hy0 hy1 hy2 rfl (by decide) _ _ _ rfl (World.ownsRow.alloc (HR1.out) _) ⟨wr.heap.size, 0, none⟩ 1 1 x.cells.toList rfl rfl (cells4_new wr x _) (cells4_one x) (by unfold maxLen; omega) (by omega) (by simp; omega) ?_)
            intro v1 w2 hown2 hg2 _ _
            have H2 := Lib.hid (hrt.out.toOut hkm hkt HXk.out hown2 hg2)
            clear hown2 hg2
            go_wp2
            first
            | exact ⟨⟨k + 1, r + 1, by go_num, by omega, H2⟩, by simp [intOf]; omega⟩
            | (rw [show k - m = 0 by omega] at H2
               exact ⟨⟨k + 1, r + 1, by go_num, by omega, H2⟩, by simp [intOf]; omega⟩)
          · have hkm' : ¬ (k : Int) < (m : Int) := by omega
            first
            | (exfalso; omega)
            | (have HR1 := Lib.hid hrt.out.left
               go_wp2_with (at_builtin; refine wpList_append_own_at _ rfl _ _ 34 rfl w.heap.size 40 i1 _ 4 48 Try.underlying34 hi1 hy0 hy1 hy2 rfl (by decide) _ _ _ rfl (World.ownsRow.alloc (HR1.out) _) ⟨wr.heap.size, 0, none⟩ 1 1 x.cells.toList rfl rfl (cells4_new wr x _) (cells4_one x) (by unfold maxLen; omega) (by omega) (by simp; omega) ?_)
               intro v1 w2 hown2 hg2 _ hloc
               have H2 := Lib.hid (hrt.out.toLeft (by omega) hkt HXk.out hown2 hg2 hloc)
               clear hown2 hg2 hloc
               go_wp2
               exact ⟨⟨k + 1, r, by go_num, by omega, H2⟩, by simp [intOf]; omega⟩)
        · have hkl : k = m := by omega
          subst hkl
          have fz := HPr.out.free 0
          go_wp2
          go_ret
          have hR := hrt.out
          have e1 : r = k := by have := hR.req; omega
          have hO := hR.out
          have hL := hR.left
          subst e1
          have e2 : ((qs.drop r).take (r - r)) = qs.drop r := List.take_of_length_le (by rw [List.length_drop]; have := HN.out; omega)
          have e3 : r - r = (qs.drop r).length := by rw [List.length_drop]; have := HN.out; omega
          rw [e2] at hL
          rw [e3] at hL
          first
          | rw [e3]
          | (have e4 : (qs.drop r).length = 0 := by rw [← e3]; omega
             rw [e4] at hL ⊢)
          refine ⟨_, _, _, rfl, own_setblk hO HPr.out.blk (by decide), ⟨HP.out.hg, ?_, own_setblk (own_base hL hbw) HPr.out.blk (by decide)⟩, (Only.below hR.bel).set _, (hR.bel.mono hbw).setCell (p := ⟨g, 0, none⟩) HP.out.hg _⟩
          simp [World.setCell, Array.getElem?_modify, HPr.out.blk] <;> (have := HN.out; omega)
end Go.Proofs.Ytjjomlideieofaa.Msg
