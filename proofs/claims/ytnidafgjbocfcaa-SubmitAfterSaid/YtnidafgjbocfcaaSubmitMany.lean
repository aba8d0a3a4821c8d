/- submit.Many; 'SubmitAfter': the law's walk. -/
import Derived.Test.YtnidafgjbocfcaaSubmitRef
import Derived.Test.YtnidafgjbocfcaaTx
import Derived.Test.YtnidafgjbocfcaaBatchPart
import Derived.Deep.RegionHeld3
namespace Go.Proofs.Ytnidafgjbocfcaa.Msg
open Go Go.RowKit Go.Shelf Go.Deep Go.WideShapes

/-- Where a message goes. -/
def mside (k f : Int) : Int := if f = 0 ∨ f = 1 then (if k = 2 then 1 - f else if k = 1 ∨ k = 3 ∨ k = 4 then f else -1) else -1

set_option maxHeartbeats 4000000 in
theorem side_any (k c f s t : Int) (d a : ByteArray) (w : World) :
    Calls Try.prog 90 #[.agg #[.int .i64 k, .int .i64 c, .int .i64 f, .int .u64 s, .int .u64 t, .string d, .string a]] w fun e w' => e = .returned (.int .i64 (mside k f)) ∧ Below w.heap.size w w' := by
  have hB : ∀ o, Below w.heap.size w (w.alloc o) := fun o => (Below.refl _ _).alloc (Nat.le_refl _) _
  by_cases hf : f = 0 ∨ f = 1
  · rcases hf with rfl | rfl
    all_goals
      by_cases h2 : k = 2
      · subst h2
        go_enter Try.func90, Try.ntmps90
        go_wp2
        go_ret
        exact ⟨rfl, hB _⟩
      · by_cases h1 : k = 1
        · subst h1
          clear h2
          go_enter Try.func90, Try.ntmps90
          go_wp2
          go_ret
          exact ⟨rfl, hB _⟩
        · by_cases h3 : k = 3
          · subst h3
            clear h2 h1
            go_enter Try.func90, Try.ntmps90
            go_wp2
            go_ret
            exact ⟨rfl, hB _⟩
          · by_cases h4 : k = 4
            · subst h4
              clear h2 h1 h3
              go_enter Try.func90, Try.ntmps90
              go_wp2
              go_ret
              exact ⟨rfl, hB _⟩
            · have hm : mside k 0 = -1 ∧ mside k 1 = -1 := by simp [mside, h1, h2, h3, h4]
              have HM := Lib.hid hm
              have q1 : (k == 1) = false := by simpa using h1
              have q2 : (k == 2) = false := by simpa using h2
              have q3 : (k == 3) = false := by simpa using h3
              have q4 : (k == 4) = false := by simpa using h4
              clear hm h1 h2 h3 h4
              go_enter Try.func90, Try.ntmps90
              go_wp2
              go_ret
              exact ⟨by first | (rw [HM.out.1]; rfl) | (rw [HM.out.2]; rfl), hB _⟩
  · have HM := Lib.hid (show mside k f = -1 by simp [mside, hf])
    have q0 : (f != 0) = true := by simp; omega
    have q1 : (f != 1) = true := by simp; omega
    clear hf
    go_enter Try.func90, Try.ntmps90
    go_wp2
    go_ret
    exact ⟨by rw [HM.out]; rfl, hB _⟩

/-- A message's box. -/
def Box' (W : World) (H : Nat) (x : M7) : Prop := W.heap[H]? = some (.cells x.cells TM (0, 0))
theorem Box'.cells {W : World} {H : Nat} {x : M7} (h : Box' W H x) : W.cell? ⟨H, 0, none⟩ = some (.int .i64 x.k) ∧ W.cell? ⟨H, 1, none⟩ = some (.int .i64 x.c) ∧ W.cell? ⟨H, 2, none⟩ = some (.int .i64 x.f) ∧ W.cell? ⟨H, 3, none⟩ = some (.int .u64 x.s) ∧ W.cell? ⟨H, 4, none⟩ = some (.int .u64 x.t) ∧ W.cell? ⟨H, 5, none⟩ = some (.string x.d) ∧ W.cell? ⟨H, 6, none⟩ = some (.string x.a) :=
  ⟨cell_of_row _ _ 0 _ _ _ h, cell_of_row _ _ 1 _ _ _ h, cell_of_row _ _ 2 _ _ _ h, cell_of_row _ _ 3 _ _ _ h, cell_of_row _ _ 4 _ _ _ h, cell_of_row _ _ 5 _ _ _ h, cell_of_row _ _ 6 _ _ _ h⟩
def goes (side : Int) (m : M7) : Bool := mside m.k m.f == side

set_option maxRecDepth 100000 in
set_option maxHeartbeats 2000000 in
theorem to_any (A : Option Addr) (len cap : Nat) (ms : List M7) (side : Int) (w : World) (hr : Rd w A len ms) (hlen : len ≤ 1000000) :
    Calls Try.prog 71 #[.slice A len cap, .int .i64 side] w fun e w' => (∃ u, e = .returned u ∧ w'.ownsRow w.heap.size TM 7 u (ms.filter (goes side)).length (mevs (ms.filter (goes side)))) ∧ Below w.heap.size w w' := by
  obtain ⟨i1, hi1, hy0, hy1, hy2⟩ := info_parts infoM
  have hml := Lib.hid hr.1
  go_enter Try.func71, Try.ntmps71
  go_wp2
  go_loopw [5, 10] (fun o i wr => ∃ k : Nat, i = .int .i64 (k : Int) ∧ k ≤ len ∧ wr.ownsRow w.heap.size TM 7 o ((ms.take k).filter (goes side)).length (mevs ((ms.take k).filter (goes side))) ∧ Below w.heap.size w wr)
    (fun _ i _ => len - (intOf i).toNat)
  case atStart => exact ⟨0, rfl, Nat.zero_le _, World.ownsRow_nil _ _ _ _, Below.refl _ _⟩
  case round =>
    obtain ⟨k, rfl, hk, hown, hb⟩ := hrel
    by_cases hlt : k < len
    · obtain ⟨b, off, rfl, hbl, hc⟩ := hr.at hb (by omega)
      have hck := hc k hlt
      clear hc
      obtain ⟨m, hm⟩ : ∃ m, ms.getD k m0 = m := ⟨_, rfl⟩
      rw [hm] at hck
      have hkl : k < ms.length := by have := hml.out; omega
      have htk : ms.take (k + 1) = ms.take k ++ [m] := by
        rw [List.take_succ_eq_append_getElem hkl, ← hm, List.getD_eq_getElem?_getD, List.getElem?_eq_getElem hkl]; rfl
      have HT := Lib.hid htk
      have hfl : ((ms.take k).filter (goes side)).length ≤ 1000000 := Nat.le_trans (List.length_filter_le _ _) (by rw [List.length_take]; omega)
      obtain ⟨c0, c1, c2, c3, c4, c5, c6⟩ := hck
      have hi0 : (0 : Int) ≤ (k : Int) := by omega
      have hkn : (k : Int) < (len : Int) := by omega
      obtain ⟨Al, cl, hv⟩ := own_formN hown
      subst hv
      have HO := Lib.hid (And.intro hown hb)
      have hz := hb.size
      have hblr : b < wr.heap.size := Nat.lt_of_lt_of_le hbl hz
      clear htk hm hown hb hr
      by_cases hg : mside m.k m.f = side
      · have hgb : goes side m = true := by unfold goes; simpa using hg
        have HG := Lib.hid hgb
        have HS := Lib.hid hg
        clear hgb hg
        go_wp2_with fail
        refine (side_any _ _ _ _ _ _ _ _).mono ?_
        rintro e w1 ⟨rfl, hb1⟩
        rw [HS.out]
        have hbox : Box' (wr.alloc (.cells m.cells TM)) wr.heap.size m := World.alloc_heap_new wr _
        have hbx : Box' w1 wr.heap.size m := (hb1.block wr.heap.size (by simp)).trans hbox
        obtain ⟨d0, d1, d2, d3, d4, d5, d6⟩ := hbx.cells
        have hall : Below wr.heap.size wr w1 := ((Below.refl _ _).alloc (Nat.le_refl _) _).trans (hb1.mono (by simp))
        have hown1 := own_below HO.out.1 hall
        have hB1 := Lib.hid (HO.out.2.trans (hall.mono hz))
        have hz1 := hB1.out.size
        clear hbox hbx hall hb1
        go_wp2_with (at_builtin; refine wpList_append_own_at _ rfl _ _ 23 rfl w.heap.size 80 i1 _ 7 72 Try.underlying23 hi1 hy0 hy1 hy2 rfl (by decide) _ _ _ rfl (hown1.alloc _) ⟨w1.heap.size, 0, none⟩ 1 1 m.cells.toList rfl rfl (cells7_new w1 m _) (cells7_one m) (by unfold maxLen; omega) (by omega) (by simp; omega) ?_)
        intro v1 w2 hown2 hg2 _ _
        have H2 := Lib.hid (And.intro hown2 (below_push hB1.out hz1 hown1 hg2))
        clear hown2 hg2 hown1
        go_wp2
        refine ⟨⟨k + 1, by go_num, by omega, ?_, H2.out.2⟩, by simp [intOf]; omega⟩
        rw [HT.out, List.filter_append, show List.filter (goes side) [m] = [m] from by simp [HG.out], List.length_append, List.length_singleton, mevs_snoc]
        exact H2.out.1
      · have hgb : goes side m = false := by unfold goes; simpa using hg
        have HG := Lib.hid hgb
        have hne : (mside m.k m.f == side) = false := by simpa using hg
        clear hgb hg
        go_wp2_with fail
        refine (side_any _ _ _ _ _ _ _ _).mono ?_
        rintro e w1 ⟨rfl, hb1⟩
        have hall : Below wr.heap.size wr w1 := ((Below.refl _ _).alloc (Nat.le_refl _) _).trans (hb1.mono (by simp))
        have H2 := Lib.hid (And.intro (own_below HO.out.1 hall) (HO.out.2.trans (hall.mono hz)))
        clear hall hb1
        go_wp2
        refine ⟨⟨k + 1, by go_num, by omega, ?_, H2.out.2⟩, by simp [intOf]; omega⟩
        rw [HT.out, List.filter_append, show List.filter (goes side) [m] = [] from by simp [HG.out], List.append_nil]
        exact H2.out.1
    · obtain rfl : k = len := by omega
      have H := Lib.hid (And.intro hown hb)
      clear hown hb
      go_wp2
      go_ret
      refine ⟨⟨_, rfl, ?_⟩, H.out.2⟩
      have := H.out.1
      rw [List.take_of_length_le (by have := hml.out; omega)] at this
      exact this

theorem own_cap {w : World} {base e n c size : Nat} {A : Option Addr} {xs : List Value} (h : w.ownsRow base e size (.slice A n c) n xs) : n ≤ c ∧ c ≤ maxLen := by
  rcases h.2 with ⟨hv, h0⟩ | ⟨g, cap, cur, hv, _, _, h1, h2, _⟩
  · injection hv with _ _ hc
    subst hc h0
    exact ⟨Nat.le_refl _, by decide⟩
  · injection hv with _ _ hc
    subst hc
    exact ⟨h1, h2⟩

set_option maxHeartbeats 2000000 in
theorem many_any (A : Option Addr) (len cap : Nat) (ms : List M7) (side : Int) (most : Nat) (w : World) (hr : Rd w A len ms) (hlen : len ≤ 1000) (hm : 1 ≤ most) (hmm : most ≤ 9223372036854775807) :
    Calls Try.prog 47 #[.slice A len cap, .int .i64 side, .int .i64 (most : Int)] w fun e w' => e = .returned (.int .u64 ((partsOf most (ms.filter (goes side))).length : Int)) ∧ Below w.heap.size w w' := by
  have hfl := Nat.le_trans (List.length_filter_le (goes side) ms) (Nat.le_of_eq hr.1)
  have hpl := Nat.le_trans (parts_len hm (ms.filter (goes side))) hfl
  go_enter Try.func47, Try.ntmps47
  go_wp2_with fail
  refine (to_any A len cap ms side w hr (by omega)).mono ?_
  rintro e w1 ⟨⟨u, rfl, hown⟩, hb⟩
  obtain ⟨Au, cu, rfl⟩ := own_formN hown
  have hcap := own_cap hown
  have hrd := row_at hown rfl
  have HB := Lib.hid hb
  clear hown hb hr
  unfold maxLen at hcap
  go_wp2_with fail
  refine (part_any Au _ cu _ most w1 hrd hcap.1 (by omega) (by omega) hm hmm).mono ?_
  rintro e w2 ⟨v, us, rfl, hP, hb2⟩
  obtain ⟨Av, cv, hv⟩ := own_formN hP.row
  have hul := hP.len
  rw [hul] at hv
  subst hv
  have HB2 := Lib.hid (HB.out.trans (hb2.mono HB.out.size))
  clear hP hb2 hul hrd
  generalize hn : (partsOf most (ms.filter (goes side))).length = n at hpl ⊢
  have HN := Lib.hid hn
  clear hn
  have hw : IntKind.u64.wrap (n : Int) = (n : Int) := by rw [IntKind.wrap_u64]; omega
  go_wp2
  go_ret
  exact ⟨by rw [HN.out]; rfl, HB2.out⟩
end Go.Proofs.Ytnidafgjbocfcaa.Msg
