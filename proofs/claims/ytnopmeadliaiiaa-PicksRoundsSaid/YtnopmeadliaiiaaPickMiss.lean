/- picks.Missing: a map of how often each number is there. -/
import Derived.Test.YtnopmeadliaiiaaPickRef
import Derived.Maps.OwnOps
import Derived.Maps.OwnSet
import Derived.Maps.Views
import Derived.Deep.RegionLaw
namespace Go.Proofs.Ytnopmeadliaiiaa.Picks
open Go Go.RowKit picksNext

abbrev KT : Nat := 37
theorem lawI : Maps.Keyed Try.prog 3 := Maps.int_keyed Try.underlying3
theorem zeroI (w : World) : (zeroValue 3).run Try.prog w = .ok (.int .i64 0) w := by kernel_rfl

/-- The map tells of each number how often it is there. -/
def Cn (D : DataW Unit) (zs : List Int) : Prop := ∀ x, (Lit.int .i64 x).wf = true → D.atKey (.int .i64 x) (.lit (.int .i64 0)) = .lit (.int .i64 (zs.count x : Int))
theorem Cn.nil : Cn (.map []) [] := fun _ _ => rfl
theorem Cn.step {D : DataW Unit} {zs : List Int} {z c : Int} (hm : Maps.IsMap D) (h : Cn D zs) (hw : (Lit.int .i64 z).wf = true) (hc : D.atKey (.int .i64 z) (.lit (.int .i64 0)) = .lit (.int .i64 c)) : Cn (D.put (.int .i64 z) (.lit (.int .i64 (c + 1)))) (zs ++ [z]) := by
  have hcz := h z hw
  rw [hc] at hcz
  injection hcz with hcz
  injection hcz with _ hcz
  intro x hx
  rw [List.count_append, List.count_singleton]
  by_cases e : x = z
  · subst e
    rw [Maps.atKey_put_same hm (show WideAt.IsKeyLit (.int .i64 x) from trivial), hcz]
    simp
  · rw [Maps.atKey_put_other (by intro h; injection h with _ h; exact e h), h x hx]
    have : (z == x) = false := by simpa using fun h => e h.symm
    simp [this]

/-- While the map is filled, and behind that. -/
structure MS (w W : World) (zs : List Int) (k : Nat) : Prop where
  mp : ∃ D, W.ownsMap (H := Unit) Try.prog 3 (plainElem Try.prog 3) w.heap.size k D ∧ Cn D zs
  box : W.heap[w.heap.size + 1]? = some (.cells #[.map (some w.heap.size)] KT (0, 0))
  bel : Below w.heap.size w W
theorem MS.grown {w W W1 : World} {zs : List Int} {k : Nat} {row : Option Nat} (h : MS w W zs k) (hg : W.grownBy W1 row) (hr : ∀ j, row = some j → w.heap.size + 2 ≤ j) : MS w W1 zs k := by
  obtain ⟨D, hD, hC⟩ := h.mp
  exact ⟨⟨D, hD.kept hg (fun e => by have := hr _ e.symm; omega), hC⟩, (hg.block _ (lt_blk h.box) (fun e => by have := hr _ e.symm; omega)).trans h.box, h.bel.grown hg h.bel.size (fun j hj => by have := hr j hj; omega)⟩
theorem MS.alloc {w W : World} {zs : List Int} {k : Nat} (h : MS w W zs k) (o : Obj) : MS w (W.alloc o) zs k := h.grown (World.grownBy_alloc W o none) (fun j hj => by cases hj)
theorem MS.drewN {w W : World} {zs : List Int} {k : Nat} (h : MS w W zs k) (q : Nat) : MS w (W.drewN q) zs k := by
  obtain ⟨D, hD, hC⟩ := h.mp
  exact ⟨⟨D, hD, hC⟩, h.box, below_drewN h.bel q⟩

/-- The closure: is a number not there? -/
theorem miss1_any {w W : World} {zs : List Int} {k : Nat} (h : MS w W zs k) (x : Int) (hx : (Lit.int .i64 x).wf = true) :
    Calls Try.prog 19 #[.int .i64 x, .pointer (some ⟨w.heap.size + 1, 0, none⟩)] W fun e w' => e = .returned (.bool (decide (zs.count x = 0))) ∧ w' = W := by
  obtain ⟨D, hD, hC⟩ := h.mp
  obtain ⟨c, hrun, hat, _⟩ := hD.lookup_int (key := .int .i64 x) (kl := .int .i64 x) lawI Try.underlying37 Try.underlying3 (zeroI _) (Maps.keyOf_int_mk Try.underlying3 hx)
  have hcx := hC x hx
  rw [hat] at hcx
  injection hcx with hcx
  injection hcx with _ hcx
  have hb := cell_blk h.box 0
  simp at hb
  have HM := Lib.hid hcx
  have hm := zs.count x
  clear hcx hC hat hm
  by_cases h0 : c = 0
  · subst h0
    go_enter Try.func19, Try.ntmps19
    go_wp2
    go_ret
    refine ⟨?_, rfl⟩
    have := HM.out
    rw [decide_eq_true (by omega : zs.count x = 0)]
    rfl
  · have h0b : (c == 0) = false := by simpa using h0
    go_enter Try.func19, Try.ntmps19
    go_wp2
    go_ret
    refine ⟨?_, rfl⟩
    have := HM.out
    rw [decide_eq_false (by omega : ¬ zs.count x = 0)]
    rfl

theorem count_le' (zs : List Int) (x : Int) (k : Nat) : (zs.take k).count x ≤ k := Nat.le_trans List.count_le_length (by simp; omega)

/-- Those that are not there. -/
def miss (row who : List Int) : List Int := who.filter fun x => decide (row.count x = 0)
theorem miss_step (row who : List Int) (k : Nat) (h : k < who.length) : miss row (who.take (k + 1)) = miss row (who.take k) ++ if row.count (who.getD k 0) = 0 then [who.getD k 0] else [] := by
  unfold miss
  have e : who.getD k 0 = who[k] := by rw [List.getD_eq_getElem?_getD, List.getElem?_eq_getElem h]; rfl
  rw [List.take_succ_eq_append_getElem h, List.filter_append, e]
  by_cases hc : row.count who[k] = 0
  · rw [if_pos hc]; simp [hc]
  · rw [if_neg hc]; simp [hc]
theorem miss_len (row who : List Int) (k : Nat) : (miss row (who.take k)).length ≤ k := Nat.le_trans (List.length_filter_le _ _) (by simp; omega)
def Wf (zs : List Int) : Prop := ∀ z ∈ zs, (Lit.int .i64 z).wf = true
theorem Wf.at {zs : List Int} (h : Wf zs) (k : Nat) (hk : k < zs.length) : (Lit.int .i64 (zs.getD k 0)).wf = true := by
  rw [List.getD_eq_getElem?_getD, List.getElem?_eq_getElem hk]
  exact h _ (List.getElem_mem hk)
theorem take_snoc (zs : List Int) (k : Nat) (hk : k < zs.length) : zs.take (k + 1) = zs.take k ++ [zs.getD k 0] := by
  rw [List.take_succ_eq_append_getElem hk, List.getD_eq_getElem?_getD, List.getElem?_eq_getElem hk]
  rfl

set_option maxRecDepth 100000 in
set_option maxHeartbeats 4000000 in
theorem missing_any (A B : Option Addr) (n m c d : Nat) (row who : List Int) (w : World) (hrl : row.length = n) (hwl : who.length = m) (hn : n ≤ 1000) (hm : m ≤ 1000) (ha : Rd w A n row) (hb : Rd w B m who) (hwr : Wf row) (hww : Wf who) :
    Calls Try.prog 8 #[.slice A n c, .slice B m d] w fun e w' => ∃ A' r c', e = .returned (.slice A' r c') ∧ r = (miss row who).length ∧ w'.ownsRow w.heap.size 3 1 (.slice A' r c') r (ints (miss row who)) ∧ Below w.heap.size w w' := by
  obtain ⟨i0, hi, hz0, hz1, hz2⟩ := info_parts infoI
  have hmm := @run_makeMap Try.prog
  have HA := Lib.hid (And.intro ha (And.intro hrl hwr))
  have HB := Lib.hid (And.intro hb (And.intro hwl hww))
  clear ha hb hrl hwl hwr hww
  go_enter Try.func8, Try.ntmps8
  go_wp2
  clear hmm
  go_loopw [13] (fun i wr => ∃ k : Nat, i = .int .i64 (k : Int) ∧ k ≤ n ∧ Hid (MS w wr (row.take k) k)) (fun i _ => n - (intOf i).toNat)
  case atStart => exact ⟨0, rfl, Nat.zero_le _, Lib.hid ⟨⟨.map [], (World.ownsMap_made w _ _ _).alloc _, Cn.nil⟩, by simpa using heap_alloc_new (w.alloc (.map #[] 0)) (.cells #[.map (some w.heap.size)] KT), ((Below.refl _ _).alloc (Nat.le_refl _) _).alloc (by simp) _⟩⟩
  case round =>
    obtain ⟨k, rfl, hk, hms⟩ := hrel
    by_cases hlt : k < n
    · obtain ⟨b, off, hA, hbl, hc⟩ := HA.out.1.below hms.out.bel (by omega)
      have hck := hc k hlt
      have hwz := HA.out.2.2.at k (by have := HA.out.2.1; omega)
      have HTk := Lib.hid (take_snoc row k (by have := HA.out.2.1; omega))
      obtain ⟨z, hz⟩ : ∃ z, z = row.getD k 0 := ⟨_, rfl⟩
      rw [← hz] at hck hwz HTk
      subst hA
      obtain ⟨D, hD, hC⟩ := hms.out.mp
      obtain ⟨cc, hrun, hat, _⟩ := hD.drew.lookup_int (key := .int .i64 z) (kl := .int .i64 z) lawI Try.underlying37 Try.underlying3 (zeroI _) (Maps.keyOf_int_mk Try.underlying3 hwz)
      have hcb : 0 ≤ cc ∧ cc ≤ 1000 := by
        have hcx := hC z hwz
        rw [hat] at hcx
        injection hcx with hcx
        injection hcx with _ hcx
        have h1 : (row.take k).count z ≤ k := count_le' row z k
        omega
      have hc1 : (Lit.int .i64 (cc + 1)).wf = true := by simp [Lit.wf, IntKind.min, IntKind.max, IntKind.bits, IntKind.signed]; omega
      obtain ⟨w9, hupd, hown9, hg9⟩ := hD.drew.update (t := KT) (key := .int .i64 z) (val := .int .i64 (cc + 1)) lawI Try.underlying37 (by unfold maxLen; omega) (Maps.keyOf_int_mk Try.underlying3 hwz) (plainElem_int Try.underlying3 hc1)
      have hbx := cell_blk hms.out.box 0
      simp at hbx
      have hi0 : (0 : Int) ≤ (k : Int) := by omega
      have hi1 : (k : Int) < (n : Int) := by omega
      have hwc : IntKind.i64.wrap (cc + 1) = cc + 1 := IntWalk.i64_in _ (by omega)
      have H9 := Lib.hid (And.intro hown9 (And.intro (hC.step hD.isMap hwz hat) hg9))
      clear hC hat hown9 hg9 hD hc hz hbl
      go_wp2
      go_region_law (fail)
      all_goals
        have HN := Lib.hid (show MS w w9 (row.take (k + 1)) (k + 1) from ⟨⟨_, H9.out.1, by rw [HTk.out]; exact H9.out.2.1⟩, (H9.out.2.2.block _ (lt_blk hms.out.box) (fun e => by injection e with e; omega)).trans hms.out.box, (Below.drew hms.out.bel).grown H9.out.2.2 hms.out.bel.size (fun j hj => by cases hj; exact Nat.le_refl _)⟩)
        clear hupd
        go_wp2
        exact ⟨⟨k + 1, by go_num, by omega, HN⟩, by simp [intOf]; omega⟩
    · obtain rfl : n = k := by omega
      have HMS := Lib.hid (show MS w wr row n by have := hms.out; rwa [List.take_of_length_le (by have := HA.out.2.1; omega)] at this)
      clear hms
      have hws2 : w.heap.size + 2 ≤ wr.heap.size := lt_blk HMS.out.box
      go_wp2
      go_loopw [8, 27] (fun vo i wq => ∃ (k r : Nat), i = .int .i64 (k : Int) ∧ k ≤ m ∧ r ≤ k ∧ Hid (MS w wq row n) ∧ Hid (r = (miss row (who.take k)).length) ∧ Hid (wq.ownsRow (w.heap.size + 2) 3 1 vo r (ints (miss row (who.take k))))) (fun _ i _ => m - (intOf i).toNat)
      case atStart => exact ⟨0, 0, rfl, Nat.zero_le _, Nat.le_refl _, HMS, Lib.hid rfl, Lib.hid (World.ownsRow_nil _ _ _ _)⟩
      case round =>
        obtain ⟨k, r, rfl, hk, hrk, hms, hrl, hown⟩ := hrel
        obtain ⟨Ao, co, hvo⟩ := own_form hown.out
        subst hvo
        by_cases hlt : k < m
        · obtain ⟨b, off, hA, hbl, hc⟩ := HB.out.1.below hms.out.bel (by omega)
          have hck := hc k hlt
          have hxz := HB.out.2.2.at k (by have := HB.out.2.1; omega)
          have HSt := Lib.hid (miss_step row who k (by have := HB.out.2.1; omega))
          obtain ⟨x, hx⟩ : ∃ x, x = who.getD k 0 := ⟨_, rfl⟩
          rw [← hx] at hck hxz HSt
          subst hA
          have hi0 : (0 : Int) ≤ (k : Int) := by omega
          have hi1 : (k : Int) < (m : Int) := by omega
          have HC := Lib.hid (miss1_any hms.out x hxz)
          have hsz : w.heap.size + 2 ≤ wr.heap.size := lt_blk hms.out.box
          clear hc hx hbl
          by_cases h0 : row.count x = 0
          · rw [decide_eq_true h0] at HC
            have HS2 := Lib.hid (show miss row (who.take (k + 1)) = miss row (who.take k) ++ [x] by rw [HSt.out, if_pos h0])
            clear h0
            go_wp2_with fail
            refine HC.out.mono ?_
            rintro e w4 ⟨rfl, hw4⟩
            obtain rfl := hw4.symm
            go_wp2_with (at_builtin; refine wpList_append_own _ rfl _ _ 22 rfl (w.heap.size + 2) 3 i0 (.int .i64 0) 1 8 Try.underlying22 hi hz0 hz1 (by assumption) rfl (by decide) _ _ _ rfl (World.ownsRow.alloc (hown.out) _) ⟨wr.heap.size, 0, none⟩ 1 1 [.int .i64 x] rfl rfl (cell_one_new _ _ _) (one_one rfl) (by unfold maxLen; omega) (by omega) (by simp; omega) ?_; intro v5 w5 hown5 hg5 _)
            have hg5' : (wr.alloc (.cells #[.int .i64 x] 3)).grownBy w5 (Value.slice Ao r co).ownBlock := hg5
            have H5 := Lib.hid (And.intro hown5 ((hms.out.alloc _).grown hg5' (own_ge hown.out)))
            clear hown5 hg5 hg5' hck
            go_wp2
            exact ⟨⟨k + 1, r + 1, by go_num, by omega, by omega, Lib.hid H5.out.2, Lib.hid (by rw [HS2.out, List.length_append, ← hrl.out]; rfl), Lib.hid (by rw [HS2.out]; have := H5.out.1; simpa [ints] using this)⟩, by simp [intOf]; omega⟩
          · rw [decide_eq_false h0] at HC
            have HS2 := Lib.hid (show miss row (who.take (k + 1)) = miss row (who.take k) by rw [HSt.out, if_neg h0, List.append_nil])
            clear h0
            go_wp2_with fail
            refine HC.out.mono ?_
            rintro e w4 ⟨rfl, hw4⟩
            obtain rfl := hw4.symm
            clear hck
            go_wp2
            exact ⟨⟨k + 1, r, by go_num, by omega, by omega, hms, Lib.hid (by rw [HS2.out]; exact hrl.out), Lib.hid (by rw [HS2.out]; exact hown.out)⟩, by simp [intOf]; omega⟩
        · obtain rfl : m = k := by omega
          have HE := Lib.hid (show who.take m = who from List.take_of_length_le (by have := HB.out.2.1; omega))
          go_wp2
          go_ret
          have h1 := hrl.out
          have h2 := hown.out
          rw [HE.out] at h1 h2
          exact ⟨Ao, r, co, rfl, h1, own_low h2 (by omega), hms.out.bel⟩
end Go.Proofs.Ytnopmeadliaiiaa.Picks
