/- 'PicksOrders' holds for every input, with no condition: which order has which number, and back; how many there are. -/
import Derived.Test.YteajilefhkckeaaPickIs
import Derived.ChangeSlices
namespace Go.Proofs.Yteajilefhkckeaa.picksOrders
open Go Go.RowKit Picks picksNext Go.ChangeShapes Go.WideShapes

theorem at_of {w : World} {A : Option Addr} {n : Nat} {zs : List Int} (h : Rd w A n zs) : 0 < n → ∃ b off, A = some ⟨b, off, none⟩ ∧ ∀ i, i < n → w.cell? ⟨b, off + i, none⟩ = some (.int .i64 (zs.getD i 0)) := fun hl => by
  obtain ⟨b, off, h1, _, h2⟩ := h hl
  exact ⟨b, off, h1, h2⟩
theorem same_any {w : World} {A B : Option Addr} {n c d : Nat} {zs : List Int} (hn : n ≤ 20) (ha : Rd w A n zs) (hb : Rd w B n zs) :
    Calls Try.prog 16 #[.slice A n c, .slice B n d] w fun e w' => e = .returned (.bool true) ∧ Below w.heap.size w w' :=
  (same_eq A B n c d zs (by omega) w (at_of ha) (at_of hb)).mono fun e w' h => ⟨h.1, by obtain ⟨q, rfl⟩ := h.2; exact below_drewN (Below.refl _ _) q⟩

set_option maxHeartbeats 1000000 in
theorem law_long (n k : Int) (A : Option Addr) (len cap : Nat) (w : World) (hl : 20 < len) (hm : len ≤ 9223372036854775807) :
    Calls Try.prog 4 #[.int .i64 n, .int .u64 k, .slice A len cap] w fun e w' => e = .returned (.bool true) ∧ Below w.heap.size w w' := by
  have hp : (20 : Int) < (len : Int) := by omega
  go_enter Try.func4, Try.ntmps4
  go_wp2_with fail
  refine (awake_any _).mono ?_
  rintro e w1 ⟨rfl, hb⟩
  go_wp2
  go_ret
  exact ⟨rfl, hb⟩

/-- What the second half asks of numbers that came in. -/
def NumAns (w : World) (A : Option Addr) (len cap : Nat) (zs : List Int) (v : Value) (yes : Bool) (m : Nat) : Prop :=
  (∀ W, Below w.heap.size w W → Calls Try.prog 14 #[.slice A len cap] W fun e w' => e = .returned v ∧ Below W.heap.size W w') ∧
  (∀ W, Below w.heap.size w W → Calls Try.prog 18 #[.slice A len cap] W fun e w' => e = .returned (.bool yes) ∧ Below W.heap.size W w') ∧
  ((yes = false ∧ v = .tuple #[.int .u64 0, .bool false]) ∨ (yes = true ∧ v = .tuple #[.int .u64 (m : Int), .bool true] ∧ len ≤ 12 ∧ arr len (iota len) (m % fact len) = zs))
theorem num_ans (w : World) (A : Option Addr) (len cap : Nat) (zs : List Int) (hz : zs.length = len) (hr : Rd w A len zs) : ∃ v yes m, NumAns w A len cap zs v yes m := by
  by_cases hl : len ≤ 12
  · have hl' : zs.length ≤ 12 := by omega
    cases hn : num (iota len) zs with
    | none =>
      have hi : isL zs = false := by
        rw [Bool.eq_false_iff]
        intro h
        obtain ⟨m, hm⟩ := (isL_iff hl').1 h
        rw [hz, hn] at hm
        cases hm
      refine ⟨_, _, 0, fun W hW => number_any A len cap zs hz hl W (hr.below hW), fun W hW => is_any A len cap zs hz hl W (hr.below hW), .inl ⟨hi, ?_⟩⟩
      rw [hn]
      rfl
    | some m =>
      have hi : isL zs = true := (isL_iff hl').2 ⟨m, by rw [hz]; exact hn⟩
      obtain ⟨h1, h2⟩ := num_lt zs (iota len) m (by rw [iota_len]; exact hz.symm) hn
      rw [hz] at h1 h2
      refine ⟨_, _, m, fun W hW => number_any A len cap zs hz hl W (hr.below hW), fun W hW => is_any A len cap zs hz hl W (hr.below hW), .inr ⟨hi, ?_, hl, ?_⟩⟩
      · rw [hn]
        rfl
      · rw [Nat.mod_eq_of_lt h1]
        exact h2
  · refine ⟨_, _, 0, fun W _ => (number_long A len cap (by omega) W).mono fun e w' h => ⟨h.1, h.2 ▸ Below.refl _ _⟩, fun W _ => (is_long A len cap (by omega) W).mono fun e w' h => ⟨h.1, h.2 ▸ Below.refl _ _⟩, .inl ⟨rfl, rfl⟩⟩

theorem cells_int : Try.prog.cellsOf 3 = 1 := by kernel_rfl
theorem add_addr (b off k : Nat) : (⟨b, off, none⟩ : Addr).add k = ⟨b, off + k, none⟩ := by unfold Addr.add; by_cases h : k = 0 <;> simp [h]
set_option maxRecDepth 100000 in
theorem open_who {H : Type} {enc : TypeId × Value → H} {spare : Nat → Bool} {held : Bool} {w : World} {base b0 : Nat} {r : Reach} {v : Value} {d : DataW H} {p : List MemPlace}
    (ok : Value.okWide Try.prog w r b0 32 v) (h : DataW.Trod enc Try.prog w base spare held 32 v d p) : ∃ A len cap zs, v = .slice A len cap ∧ len ≤ maxLen ∧ Rd w A len zs := by
  obtain ⟨a0, len, cap, rfl⟩ := okWide_slice Try.underlying32 ok
  obtain ⟨fuel, hf⟩ := h
  rcases open_ints Try.underlying32 Try.underlying3 cells_int hf with ⟨hcs, _⟩ | ⟨a, len', cap', zs, hcs, hb, hl, hm, hzl, _, hc, _⟩
  · simp [Value.cells] at hcs
    obtain ⟨rfl, rfl, rfl⟩ := hcs
    exact ⟨none, 0, 0, [], rfl, by decide, fun h => absurd h (by omega)⟩
  · simp [Value.cells] at hcs
    obtain ⟨rfl, rfl, rfl⟩ := hcs
    have hlz : len ≤ zs.length := by rw [hzl]; split <;> omega
    refine ⟨some a, len, cap, zs, rfl, by omega, fun hlen => ?_⟩
    obtain ⟨b, off, spot⟩ := a
    have hspot : spot = none := by
      have h1 := hc 0 (by omega)
      simpa [Addr.add] using World.cell?_spot h1
    subst hspot
    refine ⟨b, off, rfl, ?_, fun i hi => ?_⟩
    · have := World.block_lt_of_cell? w _ (hc 0 (by omega))
      simpa [Addr.add] using this
    · have := hc i (by omega)
      rw [add_addr] at this
      exact this

theorem open_zs {H : Type} {enc : TypeId × Value → H} {spare : Nat → Bool} {held : Bool} {w : World} {base b0 : Nat} {r : Reach} {v : Value} {d : DataW H} {p : List MemPlace}
    (ok : Value.okWide Try.prog w r b0 32 v) (h : DataW.Trod enc Try.prog w base spare held 32 v d p) : ∃ A len cap zs, v = .slice A len cap ∧ len ≤ maxLen ∧ zs.length = len ∧ Rd w A len zs := by
  obtain ⟨A, len, cap, zs, hv, hl, hr⟩ := open_who ok h
  refine ⟨A, len, cap, (List.range len).map fun i => zs.getD i 0, hv, hl, by simp, fun h0 => ?_⟩
  obtain ⟨b, off, h1, h2, h3⟩ := hr h0
  refine ⟨b, off, h1, h2, fun i hi => ?_⟩
  rw [h3 i hi]
  simp [hi]

set_option maxRecDepth 100000 in
set_option maxHeartbeats 4000000 in
theorem law_main (n k : Int) (hk : 0 ≤ k) (A : Option Addr) (len cap : Nat) (zs : List Int) (w : World) (hl : len ≤ 20) (hz : zs.length = len) (hr : Rd w A len zs) :
    Calls Try.prog 4 #[.int .i64 n, .int .u64 k, .slice A len cap] w fun e w' => e = .returned (.bool true) ∧ Below w.heap.size w w' := by
  have hp : ¬ (20 : Int) < (len : Int) := by omega
  have hp2 : (len : Int) ≤ 20 := by omega
  obtain ⟨v, yes, mm, hna⟩ := num_ans w A len cap zs hz hr
  have HNA := Lib.hid hna
  have HR := Lib.hid (And.intro hz hr)
  clear hna hz hr
  by_cases hn : n < 0 ∨ 12 < n
  · skip
    have HN0 := Lib.hid (order_no n k hn)
    have HN1 := Lib.hid (orders_no n hn)
    rcases (by omega : n < 0 ∨ (0 ≤ n ∧ 12 < n)) with hn | ⟨h0, hn⟩
    all_goals
      go_enter Try.func4, Try.ntmps4
      go_wp2_with fail
      refine (HN0.out _).mono ?_
      rintro e w1 ⟨rfl, hw1⟩
      obtain rfl := hw1.symm
      go_wp2_with fail
      refine (HN1.out _).mono ?_
      rintro e w1 ⟨rfl, hw1⟩
      obtain rfl := hw1.symm
      have HB1 := Lib.hid (Below.refl w.heap.size w)
      rcases HNA.out.2.2 with ⟨hy, hv⟩ | ⟨hy, hv, hl12, harr⟩
      · subst hy hv
        go_wp2_with fail
        refine (HNA.out.1 _ HB1.out).mono ?_
        rintro e x1 ⟨rfl, b1⟩
        have HX1 := Lib.hid (HB1.out.trans (b1.mono HB1.out.size))
        clear b1
        go_wp2_with fail
        refine (HNA.out.2.1 _ HX1.out).mono ?_
        rintro e x2 ⟨rfl, b2⟩
        have HX2 := Lib.hid (HX1.out.trans (b2.mono HX1.out.size))
        clear b2
        go_wp2_with fail
        refine (awake_any _).mono ?_
        rintro e x3 ⟨rfl, b3⟩
        have HX3 := Lib.hid (HX2.out.trans (b3.mono HX2.out.size))
        clear b3
        go_wp2
        go_ret
        exact ⟨rfl, HX3.out⟩
      · subst hy hv
        have HOrd : Hid (∀ W, Calls Try.prog 12 #[.int .i64 (len : Int), .int .u64 (mm : Int)] W fun e w' => ∃ A c, e = .returned (.slice A len c) ∧ w'.ownsRow W.heap.size 3 1 (.slice A len c) len (ints zs) ∧ Below W.heap.size W w') := Lib.hid fun W => by
          have h := order_any len hl12 (mm : Int) (by omega) W
          rw [Int.toNat_natCast, harr] at h
          exact h
        clear harr
        go_wp2_with fail
        refine (HNA.out.1 _ HB1.out).mono ?_
        rintro e x1 ⟨rfl, b1⟩
        have HX1 := Lib.hid (HB1.out.trans (b1.mono HB1.out.size))
        clear b1
        go_wp2_with fail
        refine (HNA.out.2.1 _ HX1.out).mono ?_
        rintro e x2 ⟨rfl, b2⟩
        have HX2 := Lib.hid (HX1.out.trans (b2.mono HX1.out.size))
        clear b2
        go_wp2_with fail
        refine (awake_any _).mono ?_
        rintro e x3 ⟨rfl, b3⟩
        have HX3 := Lib.hid (HX2.out.trans (b3.mono HX2.out.size))
        clear b3
        go_wp2_with fail
        refine (HOrd.out _).mono ?_
        rintro e x4 ⟨A4, c4, rfl, hrow4, b4⟩
        have HX4 := Lib.hid (And.intro (rd_own hrow4) (HX3.out.trans (b4.mono HX3.out.size)))
        clear b4 hrow4
        go_wp2_with fail
        refine (same_any (by omega) HX4.out.1 (HR.out.2.below HX4.out.2)).mono ?_
        rintro e x5 ⟨rfl, b5⟩
        have HX5 := Lib.hid (HX4.out.2.trans (b5.mono HX4.out.2.size))
        clear b5
        go_wp2
        go_ret
        exact ⟨rfl, HX5.out⟩
  · skip
    obtain ⟨N, hN⟩ : ∃ N : Nat, n = (N : Int) := ⟨n.toNat, by omega⟩
    obtain ⟨k0, hk0⟩ : ∃ k0 : Nat, k = (k0 : Int) := ⟨k.toNat, by omega⟩
    subst hN
    subst hk0
    have hN12 : N ≤ 12 := by omega
    have hNi : (N : Int) ≤ 12 := by omega
    obtain ⟨G, hG⟩ : ∃ G : Nat, G = fact N := ⟨_, rfl⟩
    have hGp : 0 < G := hG ▸ fact_pos N
    have hGl : G ≤ 479001600 := hG ▸ fact_le hN12
    obtain ⟨k2, hk2⟩ : ∃ k2 : Nat, k2 = k0 % G := ⟨_, rfl⟩
    have hk2l : k2 < G := hk2 ▸ Nat.mod_lt _ hGp
    have hmd : (k0 : Int).tmod (G : Int) = (k2 : Int) := by rw [Int.tmod_eq_emod_of_nonneg (by omega), hk2, Int.natCast_emod]
    have hG0 : ¬ (G : Int) = 0 := by omega
    have hG0b : ((G : Int) == 0) = false := by simpa using hG0
    have hGn : ¬ G = 0 := by omega
    have hkw : IntKind.u64.wrap (k2 : Int) = (k2 : Int) := IntWalk.u64_in _ ⟨by omega, by omega⟩
    have hgg : ((G : Int) != (G : Int)) = false := by simp
    have hkk : ((k2 : Int) != (k2 : Int)) = false := by simp
    obtain ⟨os, hos⟩ : ∃ os, os = arr N (iota N) k2 := ⟨_, rfl⟩
    have hol : os.length = N := by rw [hos]; exact arr_len _ _ _
    have hnum : num (iota N) os = some k2 := by rw [hos]; exact num_arr N _ _ (iota_nodup N) (iota_len N) (by rw [← hG]; exact hk2l)
    have HOr : Hid (∀ W, Calls Try.prog 12 #[.int .i64 (N : Int), .int .u64 (k0 : Int)] W fun e w' => ∃ A c, e = .returned (.slice A N c) ∧ w'.ownsRow W.heap.size 3 1 (.slice A N c) N (ints os) ∧ Below W.heap.size W w') := Lib.hid fun W => by
      have h := order_any N hN12 (k0 : Int) (by omega) W
      rw [Int.toNat_natCast, ← hG, ← hk2, ← hos] at h
      exact h
    have HRo : Hid (∀ W, Calls Try.prog 17 #[.int .i64 (N : Int), .int .u64 (k0 : Int)] W (ArrAns W N os)) := Lib.hid fun W => by
      have h := rorder_any N hN12 (k0 : Int) (by omega) W
      rw [Int.toNat_natCast, ← hG, ← hk2, ← hos] at h
      exact h
    have HC := Lib.hid (orders_any N hN12)
    have HCr := Lib.hid (rorders_any N hN12)
    rw [← hG] at HC HCr
    have HNu : Hid (∀ A c W, Rd W A N os → Calls Try.prog 14 #[.slice A N c] W fun e w' => e = .returned (.tuple #[.int .u64 (k2 : Int), .bool true]) ∧ Below W.heap.size W w') := Lib.hid fun A c W h => by
      have h2 := number_any A N c os hol hN12 W h
      rw [hnum] at h2
      exact h2
    clear hG hk2 hos hol hnum hk
    go_enter Try.func4, Try.ntmps4
    go_wp2_with fail
    refine (HOr.out _).mono ?_
    rintro e w1 ⟨Ao, co, rfl, hrow1, b1⟩
    have H1 := Lib.hid (And.intro (rd_own hrow1) b1)
    clear hrow1 b1
    go_wp2_with fail
    refine (HNu.out _ _ _ H1.out.1).mono ?_
    rintro e w2 ⟨rfl, b2⟩
    have H2 := Lib.hid (And.intro (H1.out.1.below b2) (H1.out.2.trans (b2.mono H1.out.2.size)))
    clear b2
    go_wp2_with fail
    refine (HC.out _).mono ?_
    rintro e w3 ⟨rfl, hw3⟩
    obtain rfl := hw3.symm
    go_wp2_with fail
    refine (HCr.out _).mono ?_
    rintro e w3 ⟨rfl, hw3⟩
    obtain rfl := hw3.symm
    go_wp2_with fail
    refine (HRo.out _).mono ?_
    rintro e w4 ⟨Ar, cr, rfl, hrow4, -, b4⟩
    have H4 := Lib.hid (And.intro (H2.out.1.below b4) (And.intro (rd_own hrow4) (H2.out.2.trans (b4.mono H2.out.2.size))))
    clear hrow4 b4
    go_wp2_with fail
    refine (same_any (by omega) H4.out.1 H4.out.2.1).mono ?_
    rintro e w5 ⟨rfl, b5⟩
    have HB1 := Lib.hid (H4.out.2.2.trans (b5.mono H4.out.2.2.size))
    clear b5
    go_wp2_with fail
    refine (HCr.out _).mono ?_
    rintro e w3 ⟨rfl, hw3⟩
    obtain rfl := hw3.symm

    rcases HNA.out.2.2 with ⟨hy, hv⟩ | ⟨hy, hv, hl12, harr⟩
    · subst hy hv
      go_wp2_with fail
      refine (HNA.out.1 _ HB1.out).mono ?_
      rintro e x1 ⟨rfl, b1⟩
      have HX1 := Lib.hid (HB1.out.trans (b1.mono HB1.out.size))
      clear b1
      go_wp2_with fail
      refine (HNA.out.2.1 _ HX1.out).mono ?_
      rintro e x2 ⟨rfl, b2⟩
      have HX2 := Lib.hid (HX1.out.trans (b2.mono HX1.out.size))
      clear b2
      go_wp2_with fail
      refine (awake_any _).mono ?_
      rintro e x3 ⟨rfl, b3⟩
      have HX3 := Lib.hid (HX2.out.trans (b3.mono HX2.out.size))
      clear b3
      go_wp2
      go_ret
      exact ⟨rfl, HX3.out⟩
    · subst hy hv
      have HOrd : Hid (∀ W, Calls Try.prog 12 #[.int .i64 (len : Int), .int .u64 (mm : Int)] W fun e w' => ∃ A c, e = .returned (.slice A len c) ∧ w'.ownsRow W.heap.size 3 1 (.slice A len c) len (ints zs) ∧ Below W.heap.size W w') := Lib.hid fun W => by
        have h := order_any len hl12 (mm : Int) (by omega) W
        rw [Int.toNat_natCast, harr] at h
        exact h
      clear harr
      go_wp2_with fail
      refine (HNA.out.1 _ HB1.out).mono ?_
      rintro e x1 ⟨rfl, b1⟩
      have HX1 := Lib.hid (HB1.out.trans (b1.mono HB1.out.size))
      clear b1
      go_wp2_with fail
      refine (HNA.out.2.1 _ HX1.out).mono ?_
      rintro e x2 ⟨rfl, b2⟩
      have HX2 := Lib.hid (HX1.out.trans (b2.mono HX1.out.size))
      clear b2
      go_wp2_with fail
      refine (awake_any _).mono ?_
      rintro e x3 ⟨rfl, b3⟩
      have HX3 := Lib.hid (HX2.out.trans (b3.mono HX2.out.size))
      clear b3
      go_wp2_with fail
      refine (HOrd.out _).mono ?_
      rintro e x4 ⟨A4, c4, rfl, hrow4, b4⟩
      have HX4 := Lib.hid (And.intro (rd_own hrow4) (HX3.out.trans (b4.mono HX3.out.size)))
      clear b4 hrow4
      go_wp2_with fail
      refine (same_any (by omega) HX4.out.1 (HR.out.2.below HX4.out.2)).mono ?_
      rintro e x5 ⟨rfl, b5⟩
      have HX5 := Lib.hid (HX4.out.2.trans (b5.mono HX4.out.2.size))
      clear b5
      go_wp2
      go_ret
      exact ⟨rfl, HX5.out⟩

set_option maxRecDepth 100000 in
theorem walk {H : Type} {enc : TypeId × Value → H} {spare : Nat → Bool} {held : Bool} {w : World} {base : Nat} {v : Value} {d : DataW H} {p : List MemPlace} (n : Int) (_ : (Lit.int .i64 n).wf = true) (k : Int) (hk : (Lit.int .u64 k).wf = true)
    (ok : Value.okWide Try.prog w .any base 32 v) (h : DataW.Trod enc Try.prog w 0 spare held 32 v d p) :
    Calls Try.prog 4 #[.int .i64 n, .int .u64 k, v] w fun e w' => e = .returned (.bool true) ∧ Below w.heap.size w w' := by
  have hk0 : 0 ≤ k := by
    simp [Lit.wf, IntKind.min, IntKind.max, IntKind.bits, IntKind.signed] at hk
    omega
  obtain ⟨A, len, cap, zs, rfl, hl, hz, hr⟩ := open_zs ok h
  unfold maxLen at hl
  by_cases hlen : 20 < len
  · exact law_long n k A len cap w hlen (by omega)
  · exact law_main n k hk0 A len cap zs w (by omega) hz hr
end Go.Proofs.Yteajilefhkckeaa.picksOrders
