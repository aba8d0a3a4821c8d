/- 'BatchParts': the law's walk. -/
import Derived.Test.YtnidafgjbocfcaaBatchParts
import Derived.Test.YtnidafgjbocfcaaMsgOpen
import Derived.Deep.RegionHeld3
namespace Go.Proofs.Ytnidafgjbocfcaa.Msg
open Go Go.RowKit Go.Shelf

set_option maxRecDepth 100000 in
set_option maxHeartbeats 2000000 in
theorem law_less (A : Option Addr) (len cap : Nat) (ms : List M7) (most : Int) (w : World) (hr : Rd w A len ms) (hc : len ≤ cap) (hcm : cap ≤ 9223372036854775807) (hm : most < 1) :
    Calls Try.prog 5 #[.slice A len cap, .int .i64 most] w fun e w' => e = .returned (.bool true) ∧ Below w.heap.size w w' := by
  go_enter Try.func5, Try.ntmps5
  go_wp2_with fail
  refine (few27_any A len cap ms w hr (by omega)).mono ?_
  rintro e w1 ⟨b, rfl, hb60, hbl⟩
  have HB := Lib.hid hbl
  clear hbl
  cases b
  · go_wp2_with fail
    refine (awake27_any w1).mono ?_
    rintro e w2 ⟨rfl, hb2⟩
    have HB2 := Lib.hid (HB.out.trans (hb2.mono HB.out.size))
    clear hb2
    go_wp2
    go_ret
    exact ⟨rfl, HB2.out⟩
  · go_wp2_with fail
    refine (part_none A len cap most hm w1).mono ?_
    rintro e w' ⟨rfl, rfl⟩
    go_wp2_with fail
    refine (ref_part_none A len cap most hm _).mono ?_
    rintro e w'' ⟨rfl, rfl⟩
    go_wp2
    go_loopw [8] (fun i wr => i = .int .i64 0 ∧ wr = w'') (fun _ _ => 0)
    case atStart => exact ⟨rfl, rfl⟩
    case round =>
      obtain ⟨rfl, rfl⟩ := hrel
      go_wp2_with fail
      refine (awake27_any _).mono ?_
      rintro e w2 ⟨rfl, hb2⟩
      have HB2 := Lib.hid (HB.out.trans (hb2.mono HB.out.size))
      clear hb2
      go_wp2
      go_ret
      exact ⟨rfl, HB2.out⟩

/-- Between two rounds of the law. -/
def LP (w3 : World) (P : List (List M7)) (k : Nat) (all : Value) (W : World) : Prop := W.ownsRow w3.heap.size TM 7 all ((P.take k).flatten).length (mevs ((P.take k).flatten)) ∧ Below w3.heap.size w3 W

set_option maxRecDepth 100000 in
set_option maxHeartbeats 4000000 in
theorem law_more (A : Option Addr) (len cap : Nat) (ms : List M7) (most : Nat) (w : World) (hr : Rd w A len ms) (hc : len ≤ cap) (hcm : cap ≤ 9223372036854775807) (hm : 1 ≤ most) (hmm : most ≤ 9223372036854775807) :
    Calls Try.prog 5 #[.slice A len cap, .int .i64 (most : Int)] w fun e w' => e = .returned (.bool true) ∧ Below w.heap.size w w' := by
  obtain ⟨i1, hi1, hy0, hy1, hy2⟩ := info_parts infoM
  go_enter Try.func5, Try.ntmps5
  go_wp2_with fail
  refine (few27_any A len cap ms w hr (by omega)).mono ?_
  rintro e w1 ⟨b, rfl, hb60, hbl⟩
  have HB := Lib.hid hbl
  clear hbl
  cases b
  · go_wp2_with fail
    refine (awake27_any w1).mono ?_
    rintro e w2 ⟨rfl, hb2⟩
    have HB2 := Lib.hid (HB.out.trans (hb2.mono HB.out.size))
    clear hb2
    go_wp2
    go_ret
    exact ⟨rfl, HB2.out⟩
  · have hl60 : len ≤ 60 := hb60 rfl
    clear hb60
    have hr1 := Lib.hid (hr.below HB.out)
    have hlen := Lib.hid hr.1
    go_wp2_with fail
    refine (part_any A len cap ms most w1 hr1.out hc hcm (by omega) hm hmm).mono ?_
    rintro e w2 ⟨u, us, rfl, hP, hb2⟩
    have hr2 := Lib.hid (hr1.out.below hb2)
    have H2 := Lib.hid (And.intro hP (HB.out.trans (hb2.mono HB.out.size)))
    clear hP hb2
    go_wp2_with fail
    refine (ref_part_any A len cap ms most w2 hr2.out (by omega) hm hmm).mono ?_
    rintro e w3 ⟨u2, us2, rfl, hQ, hb3⟩
    have H3 := Lib.hid (And.intro (H2.out.1.below hb3 (Nat.le_refl _)) (And.intro hQ (And.intro (H2.out.2.trans (hb3.mono H2.out.2.size)) (hr2.out.below hb3))))
    clear hQ hb3 H2
    obtain ⟨Au, cu, hu, hGu⟩ := H3.out.1.form
    obtain ⟨Aw, cw, hw, hGw⟩ := H3.out.2.1.form
    subst hu hw
    have hnp := parts_len hm ms
    obtain ⟨n, hn⟩ : ∃ n, n = (partsOf most ms).length := ⟨_, rfl⟩
    rw [← hn] at hGu hGw hnp ⊢
    have HN := Lib.hid hn
    have HGu := Lib.hid hGu
    have HGw := Lib.hid hGw
    have hn60 : n ≤ 60 := by have := hlen.out; omega
    clear hn hGu hGw hnp
    go_wp2
    go_loopw [7, 8] (fun all i wr => ∃ k : Nat, i = .int .i64 (k : Int) ∧ k ≤ n ∧ LP w3 (partsOf most ms) k all wr) (fun _ i _ => n - (intOf i).toNat)
    case atStart => exact ⟨0, rfl, Nat.zero_le _, World.ownsRow_nil _ _ _ _, Below.refl _ _⟩
    case round =>
      obtain ⟨k, rfl, hk, hlp⟩ := hrel
      by_cases hlt : k < n
      · obtain ⟨Gu, rfl, _, hGu1, hGu2⟩ := HGu.out (by omega)
        obtain ⟨Gw, rfl, _, hGw1, hGw2⟩ := HGw.out (by omega)
        have hGu3 := hGu2 k hlt
        have hGw3 := hGw2 k hlt
        obtain ⟨Ak, ck, hak, hrk⟩ := H3.out.1.at k (by rw [← HN.out]; exact hlt)
        obtain ⟨Bk, dk, hbk, hsk⟩ := H3.out.2.1.at k (by rw [← HN.out]; exact hlt)
        rw [hak] at hGu3
        rw [hbk] at hGw3
        have hpk := parts_part hm ms k (by rw [← HN.out]; exact hlt)
        have hrowk := H3.out.1.each k (by rw [← HN.out]; exact hlt)
        rw [hak] at hrowk
        have hfs := Lib.hid (flat_succ (partsOf most ms) k (by rw [← HN.out]; exact hlt))
        have hfl := flat_le (partsOf most ms) k
        rw [parts_flat hm] at hfl
        have hln := hlen.out
        obtain ⟨pk, hpe⟩ : ∃ pk, (partsOf most ms).getD k [] = pk := ⟨_, rfl⟩
        rw [hpe] at hpk hrk hsk hGu3 hGw3 hrowk hfs
        obtain ⟨Gk, ck2, hgk, _, _⟩ := hrowk.form (by omega)
        injection hgk with hA1 _ hc1
        subst hA1 hc1
        have hpl : pk.length ≤ 60 := by
          have := flat_le (partsOf most ms) (k + 1)
          rw [hfs.out, parts_flat hm, List.length_append] at this
          omega
        have hmlk := mevs_len pk
        obtain ⟨pl, hple⟩ : ∃ pl, pk.length = pl := ⟨_, rfl⟩
        rw [hple] at hpk hrk hsk hGu3 hGw3 hrowk hpl hmlk
        have hfs2 := Lib.hid (show ((partsOf most ms).take (k + 1)).flatten.length = ((partsOf most ms).take k).flatten.length + pl by rw [hfs.out, List.length_append, hple])
        clear hple
        have hn1 : decide ((pl : Int) < 1) = false := decide_eq_false (by omega)
        have hn2 : decide (pl = 0) = false := decide_eq_false (by omega)
        have hn3 : decide (pl < 1) = false := decide_eq_false (by omega)
        have hm1 : decide ((most : Int) < (pl : Int)) = false := decide_eq_false (by omega)
        have hm2 : decide (most < pl) = false := decide_eq_false (by omega)
        have hf60 : (List.take k (partsOf most ms)).flatten.length ≤ 60 := by omega
        have hi0 : (0 : Int) ≤ (k : Int) := by omega
        have hkn : (k : Int) < (n : Int) := by omega
        have HK := Lib.hid (And.intro hrk (And.intro hsk hrowk))
        obtain ⟨Al, cl, rfl⟩ := own_formN hlp.1
        have HL := Lib.hid hlp
        have hPS : PS w3 Gu Gw k (.slice (some ⟨Gk, 0, none⟩) pl ck) (.slice Bk pl dk) wr := ⟨hlp.2, ⟨hGu1, hGw1⟩, (hlp.2.cell (p := ⟨Gu, k, none⟩) hGu1).trans hGu3, (hlp.2.cell (p := ⟨Gw, k, none⟩) hGw1).trans hGw3⟩
        have HX := Lib.hid (And.intro hGu1 (And.intro hGw1 (And.intro hGu3 hGw3)))
        clear hGu1 hGu2 hGw1 hGw2 hGu3 hGw3 hak hbk hpk hrk hsk hrowk hfl hln hpe hlp
        generalize hfk : ((partsOf most ms).take k).flatten.length = fl at *
        go_wp2
        go_region_held3 (fun W => Below w3.heap.size w3 W ∧ (Gu < w3.heap.size ∧ Gw < w3.heap.size) ∧ W.cell? ⟨Gu, k, none⟩ = some (.slice (some ⟨Gk, 0, none⟩) pl ck) ∧ W.cell? ⟨Gw, k, none⟩ = some (.slice Bk pl dk))
          (first | assumption | exact hPS | exact PS.drew (by assumption) | exact PS.drew hPS | exact PS.call (by assumption) hb4 | exact PS.call (PS.drew hPS) hb4)
          (first | (go_at_call 24; ((with_reducible refine (same_msgs _ _ pl _ _ pk _ (by omega) (HK.out.1.below (And.left (by assumption))) (HK.out.2.1.below (And.left (by assumption)))).mono ?_); rintro e w4 ⟨rfl, hb4⟩)))
        obtain ⟨hB4, _, hq1, hq2⟩ : Below w3.heap.size w3 w4 ∧ (Gu < w3.heap.size ∧ Gw < w3.heap.size) ∧ w4.cell? ⟨Gu, k, none⟩ = some (.slice (some ⟨Gk, 0, none⟩) pl ck) ∧ w4.cell? ⟨Gw, k, none⟩ = some (.slice Bk pl dk) := by assumption
        have hown4 : w4.ownsRow w3.heap.size TM 7 (.slice Al fl cl) fl (mevs ((partsOf most ms).take k).flatten) := by
          have h9 := HL.out.1
          rw [hfk] at h9
          exact own_below (w := wr.drew) h9 hb4
        have hnews := (own_belowN HK.out.2.2 hB4 (Nat.le_refl _)).cells (g := Gk) rfl
        have hmo := mevs_one pk
        have hz4 := hB4.size
        have H4 := Lib.hid (And.intro hB4 hown4)
        clear hB4 hb4 hPS
        go_wp2_with (at_builtin; refine wpList_append_own_at _ rfl _ _ 23 rfl w3.heap.size 80 i1 _ 7 72 Try.underlying23 hi1 hy0 hy1 hy2 rfl (by decide) _ _ _ rfl hown4 ⟨Gk, 0, none⟩ pl ck (mevs pk) rfl hmlk hnews hmo (by unfold maxLen; omega) (by omega) hz4 ?_)
        intro v1 w5 hown5 hg5 _ _
        have H5 := Lib.hid (And.intro hown5 (H4.out.1.grown hg5 hz4 (own_ge hown4)))
        clear hown5 hg5 hnews hmlk hmo hown4 hq1 hq2
        go_wp2
        go_roundw
        case rel =>
          refine ⟨k + 1, by go_num, by omega, ?_, H5.out.2⟩
          have h6 := H5.out.1
          show w5.ownsRow _ _ _ _ ((partsOf most ms).take (k + 1)).flatten.length _
          rw [hfs2.out, hfs.out, mevs_app]
          exact h6
        case measure => simp [intOf]; omega
      · obtain rfl : k = n := by omega
        have hall := hlp.1
        rw [List.take_of_length_le (by rw [← HN.out]; exact Nat.le_refl _), parts_flat hm, hlen.out] at hall
        obtain ⟨Al, cl, rfl⟩ := own_formN hall
        have HL := Lib.hid (And.intro hall hlp.2)
        clear hall hlp
        have m1 : decide ((most : Int) < 1) = false := decide_eq_false (by omega)
        have m2 : decide (most = 0) = false := decide_eq_false (by omega)
        have m3 : decide ((1 : Int) ≤ (most : Int)) = true := decide_eq_true (by omega)
        have m4 : decide (1 ≤ most) = true := decide_eq_true (by omega)
        have m5 : decide (0 < most) = true := decide_eq_true (by omega)
        go_wp2_with fail
        refine (awake27_any _).mono ?_
        rintro e w4 ⟨rfl, hb4⟩
        have HA := Lib.hid (own_below HL.out.1 hb4)
        have hww : Below w.heap.size w wr := H3.out.2.2.1.trans (HL.out.2.mono H3.out.2.2.1.size)
        have HW := Lib.hid (hww.trans (hb4.mono hww.size))
        clear hb4 hww
        go_wp2_with fail
        refine (same_msgs Al A len cl cap ms w4 (by omega) (row_at HA.out hlen.out) (hr.below HW.out)).mono ?_
        rintro e w5 ⟨rfl, hb5⟩
        have HW5 := Lib.hid (HW.out.trans (hb5.mono HW.out.size))
        clear hb5
        go_wp2
        go_ret
        exact ⟨rfl, HW5.out⟩
end Go.Proofs.Ytnidafgjbocfcaa.Msg
