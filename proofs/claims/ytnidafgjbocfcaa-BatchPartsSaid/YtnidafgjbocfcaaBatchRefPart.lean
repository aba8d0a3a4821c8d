/- The page's parts: the walk. -/
import Derived.Test.YtnidafgjbocfcaaBatchRef
import Derived.Deep.RegionLaw
import Derived.IntWalk
namespace Go.Proofs.Ytnidafgjbocfcaa.Msg
open Go Go.RowKit Go.Shelf

theorem grown_drew {W W' : World} {r : Option Nat} (h : W.drew.grownBy W' r) : W.grownBy W' r := ⟨h.os, h.tape, h.output, h.size, h.block⟩

def RefPost (w : World) (most : Nat) (ms : List M7) (e : Ending) (w' : World) : Prop := ∃ u us, e = .returned u ∧ Parts w' w.heap.size u us (partsOf most ms) ∧ Below w.heap.size w w'

theorem ref_done {w W : World} {most : Nat} {ms : List M7} {out : Value} (hm : 1 ≤ most) (h : RP w.heap.size ms most ms.length out W) (hb : Below w.heap.size w W) : RefPost w most ms (.returned out) W := by
  rcases h with ⟨h0, rfl⟩ | ⟨us, uc, done, cur, h, h1⟩
  · have : ms = [] := List.eq_nil_of_length_eq_zero h0
    subst this
    exact ⟨_, [], rfl, Parts.nil _ _, hb⟩
  · refine ⟨_, us ++ [uc], rfl, ?_, hb⟩
    have := parts_unique hm done cur h.full h1 h.le
    rw [h.flat, List.take_length] at this
    rw [this]
    exact h.parts

set_option maxRecDepth 100000 in
set_option maxHeartbeats 2000000 in
theorem ref_part_any (A : Option Addr) (len cap : Nat) (ms : List M7) (most : Nat) (w : World) (hr : Rd w A len ms) (hl : len ≤ 1000) (hm : 1 ≤ most) (hmm : most ≤ 9223372036854775807) :
    Calls Try.prog 23 #[.slice A len cap, .int .i64 (most : Int)] w (RefPost w most ms) := by
  obtain ⟨i0, hi, hz0, hz1, hz2⟩ := info_parts infoMs
  obtain ⟨i1, hi1, hy0, hy1, hy2⟩ := info_parts infoM
  have hm0 : (0 : Int) < (most : Int) := by omega
  have hlen := Lib.hid hr.1
  go_enter Try.func23, Try.ntmps23
  go_wp2
  go_loopw [5, 6] (fun o i wr => ∃ k : Nat, i = .int .i64 (k : Int) ∧ k ≤ len ∧ RP w.heap.size ms most k o wr ∧ Below w.heap.size w wr)
    (fun _ i _ => len - (intOf i).toNat)
  case atStart => exact ⟨0, rfl, Nat.zero_le _, .inl ⟨rfl, rfl⟩, Below.refl _ _⟩
  case round =>
    obtain ⟨k, rfl, hk, hrp, hb⟩ := hrel
    by_cases hlt : k < len
    -- ROUND
    · have hkm : k ≤ ms.length := by have := hlen.out; omega
      obtain ⟨r, hr0⟩ : ∃ r, k % most = r := ⟨_, rfl⟩
      have hmod : (k : Int) % (most : Int) = (r : Int) := by rw [← hr0]; rfl
      by_cases hz : r = 0
      · subst hz
        have hrz : (((0 : Nat) : Int) == 0) = true := rfl
        obtain ⟨n0, us0, hn0, hrow0⟩ := hrp.row hm hkm
        obtain ⟨A0, c0', rfl⟩ := own_form hrow0
        have HO := Lib.hid (And.intro hrp (And.intro hr0 (And.intro hb hrow0)))
        have hsz := hb.size
        clear hrp hr0 hb
        go_wp2_with (at_builtin; refine wpList_append_own_at _ rfl _ _ 47 rfl w.heap.size 23 i0 (.slice none 0 0) 1 24 Try.underlying47 hi hz0 hz1 hz2 rfl (by decide) _ _ _ rfl (hrow0.alloc _) ⟨wr.heap.size, 0, none⟩ 1 1 [.slice none 0 0] rfl rfl (cell_one_new _ _ _) (one_one rfl) (by unfold maxLen; omega) (by omega) (by simp; omega) ?_)
        intro v1 w1 hown1 hgr1 _ _
        have hrq := RP.opens HO.out.1 hm hkm HO.out.2.1 HO.out.2.2.2 hown1 hgr1
        have HBL := Lib.hid (below_push HO.out.2.2.1 hsz HO.out.2.2.2 hgr1)
        clear hgr1 hown1 hrow0 hsz

        obtain ⟨us, uc, done, cur, hp2, hcu, hdk⟩ := hrq
        obtain ⟨G, C, hG, hGb, hGl⟩ := hp2.parts.row.form (by simp)
        rw [List.length_append, List.length_singleton] at hG
        subst hG
        have hcur : w1.ownsRow w.heap.size TM 7 uc cur.length (mevs cur) := by
          have h1 := hp2.parts.each done.length (by simp)
          have h2 : us.length = done.length := by have := hp2.parts.len; simpa using this
          rw [getD_snocR, ← h2, getD_snocR] at h1
          exact h1
        obtain ⟨Au, cu, huc⟩ := own_formN hcur
        subst huc
        have cu0 : w1.cell? ⟨G, us.length, none⟩ = some (.slice Au cur.length cu) := by
          have := hp2.parts.row.cells (g := G) rfl us.length (.slice Au cur.length cu) (by simp)
          rwa [show (⟨G, 0, none⟩ : Addr).add us.length = ⟨G, us.length, none⟩ by unfold Addr.add; by_cases h : us.length = 0 <;> simp [h]] at this
        have hdl : us.length ≤ 1000 := by have := hp2.parts.len; simp at this; omega
        have hcl : cur.length ≤ 1000 := by have := hp2.count (by have := hlen.out; omega); omega
        obtain ⟨b, off, rfl, hbl, hc⟩ := hr.at HBL.out (by omega)
        have hck := hc k hlt
        clear hc
        obtain ⟨m, hm⟩ : ∃ m, ms.getD k m0 = m := ⟨_, rfl⟩
        rw [hm] at hck
        obtain ⟨c0, c1, c2, c3, c4, c5, c6⟩ := hck
        have hi0 : (0 : Int) ≤ (k : Int) := by omega
        have hi1' : (k : Int) < (len : Int) := by omega
        obtain ⟨n, hn⟩ : ∃ n : Nat, n = us.length + 1 := ⟨_, rfl⟩
        have e1 : (n : Int) - 1 = (us.length : Int) := by omega
        have e2 : (us.length : Int) < (n : Int) := by omega
        have e3 : IntKind.i64.wrap (us.length : Int) = (us.length : Int) := IntWalk.i64_in _ (by omega)
        have HP := Lib.hid hp2
        have HB := Lib.hid (show w.heap.size ≤ (w1.drew.alloc (.cells m.cells TM)).heap.size by have := HBL.out.size; simp; omega)
        have HM := Lib.hid hm
        clear hp2 hm
        rw [← hn]
        have HN := Lib.hid hn
        clear hn
        go_wp2
        go_region_law ((refine step_append_lies _ (by rfl) _ _ _ (by rfl) w.heap.size 80 i1 _ 7 72 Try.underlying23 hi1 hy0 hy1 hy2 rfl (by decide) _ _ _ (by rfl) (hcur.drew.alloc _) ⟨w1.heap.size, 0, none⟩ 1 1 m.cells.toList (by rfl) rfl (cells7_new _ m _) (cells7_one m) (by decide) (by unfold maxLen; omega) (by omega) (HB.out) (w1.heap.size + 1) (by simp) ?_; intro g2 cap2 w2 hown2 hg2' hat2 _; have hg2 := grown_drew hg2'; have hbel : Below w.heap.size w (w2.setCell ⟨G, us.length, none⟩ (.slice (some ⟨g2, 0, none⟩) (cur.length + 1) cap2)) := ((HBL.out.alloc HBL.out.size _).grown hg2 (by have := HBL.out.size; simp; omega) (own_ge hcur)).setCell (p := ⟨G, us.length, none⟩) hGb _; obtain ⟨hst1, hst2, hrp2⟩ := HP.out.put hcu (by have := hlen.out; omega) HM.out hown2 hg2 hat2; have HR := Lib.hid (And.intro hrp2 hbel); clear hrp2 hg2 hg2' hown2 hat2 hbel))
        all_goals
          go_wp2
          go_roundw
          case rel => exact ⟨k + 1, by go_num, by omega, by rw [HN.out]; exact HR.out.1, HR.out.2⟩
          case measure => simp [intOf]; omega
      · have hrq := hrp.stays hm hkm (by omega)
        have hrz : ((r : Int) == 0) = false := by rw [beq_eq_false_iff_ne]; omega
        have HBL := Lib.hid hb
        have HR0 := Lib.hid hr0
        clear hrp hb hz hr0

        obtain ⟨us, uc, done, cur, hp2, hcu, hdk⟩ := hrq
        obtain ⟨G, C, hG, hGb, hGl⟩ := hp2.parts.row.form (by simp)
        rw [List.length_append, List.length_singleton] at hG
        subst hG
        have hcur : wr.ownsRow w.heap.size TM 7 uc cur.length (mevs cur) := by
          have h1 := hp2.parts.each done.length (by simp)
          have h2 : us.length = done.length := by have := hp2.parts.len; simpa using this
          rw [getD_snocR, ← h2, getD_snocR] at h1
          exact h1
        obtain ⟨Au, cu, huc⟩ := own_formN hcur
        subst huc
        have cu0 : wr.cell? ⟨G, us.length, none⟩ = some (.slice Au cur.length cu) := by
          have := hp2.parts.row.cells (g := G) rfl us.length (.slice Au cur.length cu) (by simp)
          rwa [show (⟨G, 0, none⟩ : Addr).add us.length = ⟨G, us.length, none⟩ by unfold Addr.add; by_cases h : us.length = 0 <;> simp [h]] at this
        have hdl : us.length ≤ 1000 := by have := hp2.parts.len; simp at this; omega
        have hcl : cur.length ≤ 1000 := by have := hp2.count (by have := hlen.out; omega); omega
        obtain ⟨b, off, rfl, hbl, hc⟩ := hr.at HBL.out (by omega)
        have hck := hc k hlt
        clear hc
        obtain ⟨m, hm⟩ : ∃ m, ms.getD k m0 = m := ⟨_, rfl⟩
        rw [hm] at hck
        obtain ⟨c0, c1, c2, c3, c4, c5, c6⟩ := hck
        have hi0 : (0 : Int) ≤ (k : Int) := by omega
        have hi1' : (k : Int) < (len : Int) := by omega
        obtain ⟨n, hn⟩ : ∃ n : Nat, n = us.length + 1 := ⟨_, rfl⟩
        have e1 : (n : Int) - 1 = (us.length : Int) := by omega
        have e2 : (us.length : Int) < (n : Int) := by omega
        have e3 : IntKind.i64.wrap (us.length : Int) = (us.length : Int) := IntWalk.i64_in _ (by omega)
        have HP := Lib.hid hp2
        have HB := Lib.hid (show w.heap.size ≤ (wr.drew.alloc (.cells m.cells TM)).heap.size by have := HBL.out.size; simp; omega)
        have HM := Lib.hid hm
        clear hp2 hm
        rw [← hn]
        have HN := Lib.hid hn
        clear hn
        go_wp2
        go_region_law ((refine step_append_lies _ (by rfl) _ _ _ (by rfl) w.heap.size 80 i1 _ 7 72 Try.underlying23 hi1 hy0 hy1 hy2 rfl (by decide) _ _ _ (by rfl) (hcur.drew.alloc _) ⟨wr.heap.size, 0, none⟩ 1 1 m.cells.toList (by rfl) rfl (cells7_new _ m _) (cells7_one m) (by decide) (by unfold maxLen; omega) (by omega) (HB.out) (wr.heap.size + 1) (by simp) ?_; intro g2 cap2 w2 hown2 hg2' hat2 _; have hg2 := grown_drew hg2'; have hbel : Below w.heap.size w (w2.setCell ⟨G, us.length, none⟩ (.slice (some ⟨g2, 0, none⟩) (cur.length + 1) cap2)) := ((HBL.out.alloc HBL.out.size _).grown hg2 (by have := HBL.out.size; simp; omega) (own_ge hcur)).setCell (p := ⟨G, us.length, none⟩) hGb _; obtain ⟨hst1, hst2, hrp2⟩ := HP.out.put hcu (by have := hlen.out; omega) HM.out hown2 hg2 hat2; have HR := Lib.hid (And.intro hrp2 hbel); clear hrp2 hg2 hg2' hown2 hat2 hbel))
        all_goals
          go_wp2
          go_roundw
          case rel => exact ⟨k + 1, by go_num, by omega, by rw [HN.out]; exact HR.out.1, HR.out.2⟩
          case measure => simp [intOf]; omega
    -- END
    · obtain rfl : k = len := by omega
      have H := Lib.hid (And.intro hrp hb)
      clear hrp hb
      go_wp2
      go_ret
      have h1 := H.out.1
      rw [← hlen.out] at h1
      exact ref_done hm h1 H.out.2
end Go.Proofs.Ytnidafgjbocfcaa.Msg
