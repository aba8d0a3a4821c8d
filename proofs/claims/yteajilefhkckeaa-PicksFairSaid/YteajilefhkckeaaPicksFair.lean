/- 'PicksFair' holds for every input, with no condition: who is missing; whether each window has all. -/
import Derived.Test.YteajilefhkckeaaPickFRef2
import Derived.ChangeSlices
namespace Go.Proofs.Yteajilefhkckeaa.picksFair
open Go Go.RowKit Picks picksNext Go.ChangeShapes Go.WideShapes

theorem at_of {w : World} {A : Option Addr} {n : Nat} {zs : List Int} (h : Rd w A n zs) : 0 < n → ∃ b off, A = some ⟨b, off, none⟩ ∧ ∀ i, i < n → w.cell? ⟨b, off + i, none⟩ = some (.int .i64 (zs.getD i 0)) := fun hn => by
  obtain ⟨b, off, hA, _, hc⟩ := h hn
  exact ⟨b, off, hA, hc⟩
theorem same_any {w : World} {A B : Option Addr} {n c d : Nat} {zs : List Int} (hn : n ≤ 100) (ha : Rd w A n zs) (hb : Rd w B n zs) :
    Calls Try.prog 16 #[.slice A n c, .slice B n d] w fun e w' => e = .returned (.bool true) ∧ Below w.heap.size w w' :=
  (same_eq A B n c d zs (by omega) w (at_of ha) (at_of hb)).mono fun e w' h => ⟨h.1, by obtain ⟨q, rfl⟩ := h.2; exact below_drewN (Below.refl _ _) q⟩

set_option maxHeartbeats 1000000 in
theorem law_long (A B : Option Addr) (n m c d : Nat) (L : Int) (w : World) (h : 100 < n ∨ 100 < m) :
    Calls Try.prog 5 #[.slice A n c, .slice B m d, .int .i64 L] w fun e w' => e = .returned (.bool true) ∧ Below w.heap.size w w' := by
  by_cases hn : 100 < n
  · have hp : (100 : Int) < (n : Int) := by omega
    clear h
    go_enter Try.func5, Try.ntmps5
    go_wp2_with fail
    refine (awake_any _).mono ?_
    rintro e w1 ⟨rfl, hb⟩
    go_wp2
    go_ret
    exact ⟨rfl, hb⟩
  · have hp : ¬ (100 : Int) < (n : Int) := by omega
    have hq : (100 : Int) < (m : Int) := by omega
    clear h
    go_enter Try.func5, Try.ntmps5
    go_wp2_with fail
    refine (awake_any _).mono ?_
    rintro e w1 ⟨rfl, hb⟩
    go_wp2
    go_ret
    exact ⟨rfl, hb⟩

theorem fair_any (A B : Option Addr) (n m c d : Nat) (row who : List Int) (w : World) (l : Nat) (hl1 : 1 ≤ l) (hrl : row.length = n) (hwl : who.length = m) (hn : n ≤ 100) (hm : m ≤ 100) (hnc : n ≤ c) (ha : Rd w A n row) (hb : Rd w B m who) :
    Calls Try.prog 22 #[.slice A n c, .slice B m d, .int .i64 (l : Int)] w fun e w' => (∃ b, e = .returned (.bool b) ∧ (b = true ↔ fairTo row who l (n / l))) ∧ Below w.heap.size w w' := by
  by_cases h : l ≤ n
  · exact rfair_any A B n m c d row who l w hl1 h hrl hwl hn hm hnc ha hb
  · exact rfair_far A B n m c d row who l w (by omega)

set_option maxRecDepth 100000 in
set_option maxHeartbeats 2000000 in
theorem law_any (A B : Option Addr) (n m c d : Nat) (row who : List Int) (L : Int) (w : World) (hL : L ≤ 9223372036854775807) (hrl : row.length = n) (hwl : who.length = m) (hn : n ≤ 100) (hm : m ≤ 100) (hnc : n ≤ c) (ha : Rd w A n row) (hb : Rd w B m who) (hwr : Wf row) (hww : Wf who) :
    Calls Try.prog 5 #[.slice A n c, .slice B m d, .int .i64 L] w fun e w' => e = .returned (.bool true) ∧ Below w.heap.size w w' := by
  have hp : ¬ (100 : Int) < (n : Int) := by omega
  have hq : ¬ (100 : Int) < (m : Int) := by omega
  have hp' : (n : Int) ≤ 100 := by omega
  have hq' : (m : Int) ≤ 100 := by omega
  have HA := Lib.hid (And.intro ha (And.intro hb (And.intro hwr (And.intro hww (And.intro hrl (And.intro hwl hnc))))))
  have HM := Lib.hid (missing_any A B n m c d row who w hrl hwl hn hm ha hb hwr hww)
  have hml : (miss row who).length ≤ m := by have := miss_len row who m; rwa [List.take_of_length_le (by omega)] at this
  have HML := Lib.hid hml
  clear hrl hwl hnc ha hb hwr hww hml
  go_enter Try.func5, Try.ntmps5
  go_wp2_with fail
  refine HM.out.mono ?_
  rintro e w1 ⟨A1, r1, c1, rfl, hr1, hrow1, hb1⟩
  have H1 := Lib.hid (And.intro (rd_own hrow1) (And.intro hb1 hr1))
  have HR := Lib.hid (rmissing_any A B n m c d row who w1 HA.out.2.2.2.2.1 HA.out.2.2.2.2.2.1 hn hm (HA.out.1.below hb1) (HA.out.2.1.below hb1))
  clear hrow1 hb1 hr1
  go_wp2_with fail
  refine HR.out.mono ?_
  rintro e w2 ⟨A2, r2, c2, rfl, hr2, hrow2, hb2⟩
  obtain rfl : r2 = r1 := hr2.trans H1.out.2.2.symm
  have HS := Lib.hid (same_any (c := c1) (d := c2) (by have := H1.out.2.2; have := HML.out; omega) (H1.out.1.below hb2) (rd_own hrow2))
  have HB2 := Lib.hid (H1.out.2.1.trans (hb2.mono H1.out.2.1.size))
  clear hrow2 hb2 hr2
  go_wp2_with fail
  refine HS.out.mono ?_
  rintro e w3 ⟨rfl, hb3⟩
  have HB3 := Lib.hid (HB2.out.trans (hb3.mono HB2.out.size))
  clear hb3
  by_cases h1 : L < 1
  · have HF := Lib.hid (fair_no A B n m c d L h1 w3)
    go_wp2_with fail
    refine HF.out.mono ?_
    rintro e w4 ⟨rfl, rfl⟩
    go_wp2_with fail
    refine (awake_any _).mono ?_
    rintro e w5 ⟨rfl, hb5⟩
    have HB5 := Lib.hid (HB3.out.trans (hb5.mono HB3.out.size))
    go_wp2
    go_ret
    exact ⟨rfl, HB5.out⟩
  · obtain ⟨l, rfl⟩ : ∃ l : Nat, L = (l : Int) := ⟨L.toNat, by omega⟩
    have HF := Lib.hid (fair_pos A B n m c d row who w3 l (by omega) (by omega) HA.out.2.2.2.2.1 HA.out.2.2.2.2.2.1 hn hm HA.out.2.2.2.2.2.2 (HA.out.1.below HB3.out) (HA.out.2.1.below HB3.out) HA.out.2.2.1 HA.out.2.2.2.1)
    have hl0 : ¬ (l : Int) < 1 := h1
    have hl1 : 1 ≤ (l : Int) := by omega
    go_wp2_with fail
    refine HF.out.mono ?_
    rintro e w4 ⟨⟨b4, rfl, hb4⟩, hbe⟩
    have HB4 := Lib.hid (And.intro (HB3.out.trans (hbe.mono HB3.out.size)) hb4)
    clear hbe hb4
    go_wp2_with fail
    refine (awake_any _).mono ?_
    rintro e w5 ⟨rfl, hb5⟩
    have HB5 := Lib.hid (HB4.out.1.trans (hb5.mono HB4.out.1.size))
    have HG := Lib.hid (fair_any A B n m c d row who w5 l (by omega) HA.out.2.2.2.2.1 HA.out.2.2.2.2.2.1 hn hm HA.out.2.2.2.2.2.2 (HA.out.1.below HB5.out) (HA.out.2.1.below HB5.out))
    clear hb5
    go_wp2_with fail
    refine HG.out.mono ?_
    rintro e w6 ⟨⟨b6, rfl, hb6⟩, hbe6⟩
    obtain rfl : b6 = b4 := by
      have h2 := HB4.out.2
      cases b6 <;> cases b4 <;> simp_all
    have HB6 := Lib.hid (HB5.out.trans (hbe6.mono HB5.out.size))
    clear hbe6 hb6
    cases b6 with
    | true =>
      go_wp2
      go_ret
      exact ⟨rfl, HB6.out⟩
    | false =>
      go_wp2
      go_ret
      exact ⟨rfl, HB6.out⟩

set_option maxRecDepth 100000 in
theorem cells_int : Try.prog.cellsOf 3 = 1 := by kernel_rfl
theorem add_addr (b off k : Nat) : (⟨b, off, none⟩ : Addr).add k = ⟨b, off + k, none⟩ := by unfold Addr.add; by_cases h : k = 0 <;> simp [h]

set_option maxRecDepth 100000 in
theorem open_row {H : Type} {enc : TypeId × Value → H} {spare : Nat → Bool} {held : Bool} {w : World} {base b0 : Nat} {r : Reach} {v : Value} {d : DataW H} {p : List MemPlace}
    (ok : Value.okWide Try.prog w r b0 32 v) (h : DataW.Trod enc Try.prog w base spare held 32 v d p) : ∃ A len cap zs, v = .slice A len cap ∧ len ≤ cap ∧ zs.length = len ∧ Wf zs ∧ Rd w A len zs := by
  obtain ⟨a0, len, cap, rfl⟩ := okWide_slice Try.underlying32 ok
  obtain ⟨fuel, hf⟩ := h
  rcases open_ints Try.underlying32 Try.underlying3 cells_int hf with ⟨hcs, _⟩ | ⟨a, len', cap', zs, hcs, hb, hl, hm, hzl, _, hc, hwf⟩
  · simp [Value.cells] at hcs
    obtain ⟨rfl, rfl, rfl⟩ := hcs
    exact ⟨none, 0, 0, [], rfl, Nat.le_refl _, rfl, fun _ h => absurd h (by simp), fun h => absurd h (by omega)⟩
  · simp [Value.cells] at hcs
    obtain ⟨rfl, rfl, rfl⟩ := hcs
    have hlz : len ≤ zs.length := by rw [hzl]; split <;> omega
    refine ⟨some a, len, cap, zs.take len, rfl, hl, by simp; omega, fun z hz => hwf z (List.mem_of_mem_take hz), fun hlen => ?_⟩
    obtain ⟨b, off, spot⟩ := a
    have hspot : spot = none := by
      have h1 := hc 0 (by omega)
      simpa [Addr.add] using World.cell?_spot h1
    subst hspot
    refine ⟨b, off, rfl, ?_, fun i hi => ?_⟩
    · have := World.block_lt_of_cell? w _ (hc 0 (by omega))
      simpa [Addr.add] using this
    · have := hc i (by omega)
      rw [add_addr] at this
      rw [List.getD_eq_getElem?_getD, List.getElem?_take_of_lt hi, ← List.getD_eq_getElem?_getD]
      exact this

set_option maxRecDepth 100000 in
theorem walk {H : Type} {enc : TypeId × Value → H} {spare spare' : Nat → Bool} {held held' : Bool} {w : World} {base base' b0 b1 : Nat} {r r' : Reach} {v v' : Value} {d d' : DataW H} {p p' : List MemPlace}
    (ok : Value.okWide Try.prog w r b0 32 v) (h : DataW.Trod enc Try.prog w base spare held 32 v d p)
    (ok' : Value.okWide Try.prog w r' b1 32 v') (h' : DataW.Trod enc Try.prog w base' spare' held' 32 v' d' p') (L : Int) (hL : (Lit.int .i64 L).wf = true) :
    Calls Try.prog 5 #[v, v', .int .i64 L] w fun e w' => e = .returned (.bool true) ∧ Below w.heap.size w w' := by
  obtain ⟨A, n, c, row, rfl, hnc, hrl, hwr, hr⟩ := open_row ok h
  obtain ⟨B, m, c', who, rfl, _, hwl, hww, hw⟩ := open_row ok' h'
  by_cases hlong : 100 < n ∨ 100 < m
  · exact law_long A B n m c c' L w hlong
  · have hL' : L ≤ 9223372036854775807 := by simp [Lit.wf, IntKind.min, IntKind.max, IntKind.bits, IntKind.signed] at hL; omega
    exact law_any A B n m c c' row who L w hL' hrl hwl (by omega) (by omega) hnc hr hw hwr hww
end Go.Proofs.Yteajilefhkckeaa.picksFair
