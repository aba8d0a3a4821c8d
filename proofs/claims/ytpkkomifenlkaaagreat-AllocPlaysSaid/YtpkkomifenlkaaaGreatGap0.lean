/- gap: what asks a heap alone. -/
import Derived.Test.YtpkkomifenlkaaaGreatCommon
import Derived.Below
namespace Go.Proofs.YtpkkomifenlkaaaGreat.Gp
open Go Go.RowKit

abbrev TRn : Nat := 104
abbrev THp : Nat := 113
/-- runs lie in block g from its start on -/
def RowIs (w : World) (g : Nat) (l : List (Int × Int)) : Prop := g < w.heap.size ∧ ∀ i x, l[i]? = some x → w.cell? ⟨g, 0 + i * 2, none⟩ = some (.int .u64 x.1) ∧ w.cell? ⟨g, 0 + i * 2 + 1, none⟩ = some (.int .u64 x.2)
theorem RowIs.below {w V : World} {g : Nat} {l : List (Int × Int)} (h : RowIs w g l) (hb : Below w.heap.size w V) : RowIs V g l :=
  ⟨Nat.lt_of_lt_of_le h.1 hb.size, fun i x hx => ⟨(hb.cell (p := ⟨g, 0 + i * 2, none⟩) h.1).trans (h.2 i x hx).1, (hb.cell (p := ⟨g, 0 + i * 2 + 1, none⟩) h.1).trans (h.2 i x hx).2⟩⟩
/-- the place of the first that is sought, from i on; -1 if there is none -/
def seek (p : Int × Int → Bool) : List (Int × Int) → Int → Int
  | [], _ => -1
  | x :: l, i => if p x then i else seek p l (i + 1)
def p_ahead (n : Int) (x : Int × Int) : Bool := decide (IntKind.u64.wrap (x.1 + x.2) = n)
def p_behind (n : Int) (x : Int × Int) : Bool := decide (x.1 = IntKind.u64.wrap (n + 1))
def p_in (n : Int) (x : Int × Int) : Bool := (decide (x.1 ≤ n) && decide (IntKind.u64.wrap (n - x.1) < x.2))
set_option maxRecDepth 20000 in
theorem clo_ahead (x : Int × Int) (n : Int) (N : Nat) (w : World) (hN : w.cell? ⟨N, 0, none⟩ = some (.int .u64 n)) (hl : N < w.heap.size) : Calls Tryz.prog 69 #[.agg #[.int .u64 x.1, .int .u64 x.2], .pointer (some ⟨N, 0, none⟩)] w fun e w' => e = .returned (.bool (p_ahead n x)) ∧ Below w.heap.size w w' := by
  have h1 : (w.alloc (.cells #[.int .u64 x.1, .int .u64 x.2] TRn)).cell? ⟨N, 0, none⟩ = some (.int .u64 n) := (((Below.refl _ w).alloc (Nat.le_refl _) _).cell (p := ⟨N, 0, none⟩) hl).trans hN
  obtain ⟨a, b⟩ := x
  unfold p_ahead
  dsimp only at h1 ⊢
  go_enter Tryz.func69, Tryz.ntmps69
  go_wp2
  go_ret
  refine ⟨?_, (Below.refl _ _).alloc (Nat.le_refl _) _⟩
  first | rfl | simp | (congr 2; simp)
set_option maxRecDepth 20000 in
theorem clo_behind (x : Int × Int) (n : Int) (N : Nat) (w : World) (hN : w.cell? ⟨N, 0, none⟩ = some (.int .u64 n)) (hl : N < w.heap.size) : Calls Tryz.prog 70 #[.agg #[.int .u64 x.1, .int .u64 x.2], .pointer (some ⟨N, 0, none⟩)] w fun e w' => e = .returned (.bool (p_behind n x)) ∧ Below w.heap.size w w' := by
  have h1 : (w.alloc (.cells #[.int .u64 x.1, .int .u64 x.2] TRn)).cell? ⟨N, 0, none⟩ = some (.int .u64 n) := (((Below.refl _ w).alloc (Nat.le_refl _) _).cell (p := ⟨N, 0, none⟩) hl).trans hN
  obtain ⟨a, b⟩ := x
  unfold p_behind
  dsimp only at h1 ⊢
  go_enter Tryz.func70, Tryz.ntmps70
  go_wp2
  go_ret
  refine ⟨?_, (Below.refl _ _).alloc (Nat.le_refl _) _⟩
  first | rfl | simp | (congr 2; simp)
set_option maxRecDepth 20000 in
theorem clo_in (x : Int × Int) (n : Int) (N : Nat) (w : World) (hN : w.cell? ⟨N, 0, none⟩ = some (.int .u64 n)) (hl : N < w.heap.size) : Calls Tryz.prog 97 #[.agg #[.int .u64 x.1, .int .u64 x.2], .pointer (some ⟨N, 0, none⟩)] w fun e w' => e = .returned (.bool (p_in n x)) ∧ Below w.heap.size w w' := by
  have h1 : (w.alloc (.cells #[.int .u64 x.1, .int .u64 x.2] TRn)).cell? ⟨N, 0, none⟩ = some (.int .u64 n) := (((Below.refl _ w).alloc (Nat.le_refl _) _).cell (p := ⟨N, 0, none⟩) hl).trans hN
  obtain ⟨a, b⟩ := x
  unfold p_in
  dsimp only at h1 ⊢
  by_cases ha : a ≤ n
  · rw [decide_eq_true ha, Bool.true_and]
    go_enter Tryz.func97, Tryz.ntmps97
    go_wp2
    go_ret
    exact ⟨rfl, (Below.refl _ _).alloc (Nat.le_refl _) _⟩
  · rw [decide_eq_false ha, Bool.false_and]
    have ha' : n < a := by omega
    go_enter Tryz.func97, Tryz.ntmps97
    go_wp2
    go_ret
    exact ⟨rfl, (Below.refl _ _).alloc (Nat.le_refl _) _⟩
theorem seek_drop (p : Int × Int → Bool) : ∀ (k : Nat) (l : List (Int × Int)) (i : Int), (∀ j x, j < k → l[j]? = some x → p x = false) → seek p l i = seek p (l.drop k) (i + min (k : Int) l.length)
  | 0, l, i, _ => by rw [List.drop_zero, show i + min ((0 : Nat) : Int) l.length = i by omega]
  | k + 1, [], i, _ => by simp [seek]
  | k + 1, x :: l, i, h => by
    have h0 := h 0 x (by omega) rfl
    have h1 := seek_drop p k l (i + 1) (fun j y hj hy => h (j + 1) y (by omega) hy)
    show (if p x then i else seek p l (i + 1)) = _
    rw [h0, if_neg (by decide), h1]
    simp only [List.drop_succ_cons, List.length_cons]
    congr 1
    omega
set_option maxRecDepth 20000 in
theorem idx_ahead (g cap N : Nat) (l : List (Int × Int)) (n : Int) (hl : l.length ≤ 1000000) (w : World) (hr : RowIs w g l) (hN : w.cell? ⟨N, 0, none⟩ = some (.int .u64 n)) (hNl : N < w.heap.size) :
    Calls Tryz.prog 98 #[.slice (some ⟨g, 0, none⟩) l.length cap, .func (.func 69) #[] #[.pointer (some ⟨N, 0, none⟩)]] w fun e w' => e = .returned (.int .i64 (seek (p_ahead n) l 0)) ∧ Below w.heap.size w w' := by
  have HR := Lib.hid (And.intro hr (And.intro hN hNl))
  clear hr hN hNl
  go_enter Tryz.func98, Tryz.ntmps98
  go_wp2
  go_loopw [8] (fun i wr => ∃ k : Nat, i = .int .i64 (k : Int) ∧ k ≤ l.length ∧ Hid (Below w.heap.size w wr ∧ ∀ j x, j < k → l[j]? = some x → p_ahead n x = false)) (fun i _ => l.length - (intOf i).toNat)
  case atStart => exact ⟨0, rfl, Nat.zero_le _, Lib.hid ⟨Below.refl _ _, fun j x hj => by omega⟩⟩
  case round =>
    obtain ⟨k, rfl, hk, HB⟩ := hrel
    by_cases hlt : k < l.length
    · obtain ⟨x, hx⟩ : ∃ x, l[k]? = some x := ⟨_, List.getElem?_eq_getElem hlt⟩
      have hc := (HR.out.1.below HB.out.1).2 k x hx
      have c0 : wr.cell? ⟨g, k * 2, none⟩ = some (.int .u64 x.1) := by have := hc.1; rwa [Nat.zero_add] at this
      have c1 : wr.cell? ⟨g, k * 2 + 1, none⟩ = some (.int .u64 x.2) := by have := hc.2; rwa [Nat.zero_add] at this
      have HN : Hid (wr.cell? ⟨N, 0, none⟩ = some (.int .u64 n) ∧ N < wr.heap.size) := Lib.hid ⟨(HB.out.1.cell (p := ⟨N, 0, none⟩) HR.out.2.2).trans HR.out.2.1, Nat.lt_of_lt_of_le HR.out.2.2 HB.out.1.size⟩
      have HXk := Lib.hid hx
      clear hc hx
      go_wp2_with fail
      refine (clo_ahead x n N _ HN.out.1 HN.out.2).mono ?_
      rintro _ w1 ⟨rfl, b1⟩
      have HB1 := Lib.hid (show Below w.heap.size w w1 from HB.out.1.trans (b1.mono HB.out.1.size))
      clear b1
      cases hp : p_ahead n x with
      | true =>
        have hs : seek (p_ahead n) l 0 = (k : Int) := by
          rw [seek_drop (p_ahead n) k l 0 HB.out.2, List.drop_eq_getElem_cons hlt]
          have hx' : l[k] = x := by have := HXk.out; rw [List.getElem?_eq_getElem hlt] at this; exact Option.some.inj this
          show (if p_ahead n l[k] then _ else _) = _
          rw [hx', hp, if_pos rfl]
          omega
        go_wp2
        go_ret
        exact ⟨by rw [hs]; rfl, HB1.out⟩
      | false =>
        go_wp2
        exact ⟨⟨k + 1, by go_num, by omega, Lib.hid ⟨HB1.out, fun j y hj hy => by
          by_cases hjk : j < k
          · exact HB.out.2 j y hjk hy
          · have : j = k := by omega
            subst this
            rw [HXk.out] at hy
            cases hy
            exact hp⟩⟩, by simp [intOf]; omega⟩
    · have hs : seek (p_ahead n) l 0 = -1 := by
        rw [seek_drop (p_ahead n) k l 0 HB.out.2, List.drop_eq_nil_of_le (by omega)]
        rfl
      go_wp2
      go_ret
      exact ⟨by rw [hs]; rfl, HB.out.1⟩
set_option maxRecDepth 20000 in
theorem idxn_ahead (N : Nat) (w : World) :
    Calls Tryz.prog 98 #[.slice none 0 0, .func (.func 69) #[] #[.pointer (some ⟨N, 0, none⟩)]] w fun e w' => e = .returned (.int .i64 (-1)) ∧ w' = w := by
  go_enter Tryz.func98, Tryz.ntmps98
  go_wp2
  refine wp_loop_rounds 1 ?_
  rw [rounds_succ]
  go_wp2
  go_ret
  exact ⟨rfl, rfl⟩
set_option maxRecDepth 20000 in
theorem idx_behind (g cap N : Nat) (l : List (Int × Int)) (n : Int) (hl : l.length ≤ 1000000) (w : World) (hr : RowIs w g l) (hN : w.cell? ⟨N, 0, none⟩ = some (.int .u64 n)) (hNl : N < w.heap.size) :
    Calls Tryz.prog 98 #[.slice (some ⟨g, 0, none⟩) l.length cap, .func (.func 70) #[] #[.pointer (some ⟨N, 0, none⟩)]] w fun e w' => e = .returned (.int .i64 (seek (p_behind n) l 0)) ∧ Below w.heap.size w w' := by
  have HR := Lib.hid (And.intro hr (And.intro hN hNl))
  clear hr hN hNl
  go_enter Tryz.func98, Tryz.ntmps98
  go_wp2
  go_loopw [8] (fun i wr => ∃ k : Nat, i = .int .i64 (k : Int) ∧ k ≤ l.length ∧ Hid (Below w.heap.size w wr ∧ ∀ j x, j < k → l[j]? = some x → p_behind n x = false)) (fun i _ => l.length - (intOf i).toNat)
  case atStart => exact ⟨0, rfl, Nat.zero_le _, Lib.hid ⟨Below.refl _ _, fun j x hj => by omega⟩⟩
  case round =>
    obtain ⟨k, rfl, hk, HB⟩ := hrel
    by_cases hlt : k < l.length
    · obtain ⟨x, hx⟩ : ∃ x, l[k]? = some x := ⟨_, List.getElem?_eq_getElem hlt⟩
      have hc := (HR.out.1.below HB.out.1).2 k x hx
      have c0 : wr.cell? ⟨g, k * 2, none⟩ = some (.int .u64 x.1) := by have := hc.1; rwa [Nat.zero_add] at this
      have c1 : wr.cell? ⟨g, k * 2 + 1, none⟩ = some (.int .u64 x.2) := by have := hc.2; rwa [Nat.zero_add] at this
      have HN : Hid (wr.cell? ⟨N, 0, none⟩ = some (.int .u64 n) ∧ N < wr.heap.size) := Lib.hid ⟨(HB.out.1.cell (p := ⟨N, 0, none⟩) HR.out.2.2).trans HR.out.2.1, Nat.lt_of_lt_of_le HR.out.2.2 HB.out.1.size⟩
      have HXk := Lib.hid hx
      clear hc hx
      go_wp2_with fail
      refine (clo_behind x n N _ HN.out.1 HN.out.2).mono ?_
      rintro _ w1 ⟨rfl, b1⟩
      have HB1 := Lib.hid (show Below w.heap.size w w1 from HB.out.1.trans (b1.mono HB.out.1.size))
      clear b1
      cases hp : p_behind n x with
      | true =>
        have hs : seek (p_behind n) l 0 = (k : Int) := by
          rw [seek_drop (p_behind n) k l 0 HB.out.2, List.drop_eq_getElem_cons hlt]
          have hx' : l[k] = x := by have := HXk.out; rw [List.getElem?_eq_getElem hlt] at this; exact Option.some.inj this
          show (if p_behind n l[k] then _ else _) = _
          rw [hx', hp, if_pos rfl]
          omega
        go_wp2
        go_ret
        exact ⟨by rw [hs]; rfl, HB1.out⟩
      | false =>
        go_wp2
        exact ⟨⟨k + 1, by go_num, by omega, Lib.hid ⟨HB1.out, fun j y hj hy => by
          by_cases hjk : j < k
          · exact HB.out.2 j y hjk hy
          · have : j = k := by omega
            subst this
            rw [HXk.out] at hy
            cases hy
            exact hp⟩⟩, by simp [intOf]; omega⟩
    · have hs : seek (p_behind n) l 0 = -1 := by
        rw [seek_drop (p_behind n) k l 0 HB.out.2, List.drop_eq_nil_of_le (by omega)]
        rfl
      go_wp2
      go_ret
      exact ⟨by rw [hs]; rfl, HB.out.1⟩
set_option maxRecDepth 20000 in
theorem idxn_behind (N : Nat) (w : World) :
    Calls Tryz.prog 98 #[.slice none 0 0, .func (.func 70) #[] #[.pointer (some ⟨N, 0, none⟩)]] w fun e w' => e = .returned (.int .i64 (-1)) ∧ w' = w := by
  go_enter Tryz.func98, Tryz.ntmps98
  go_wp2
  refine wp_loop_rounds 1 ?_
  rw [rounds_succ]
  go_wp2
  go_ret
  exact ⟨rfl, rfl⟩
set_option maxRecDepth 20000 in
theorem idx_in (g cap N : Nat) (l : List (Int × Int)) (n : Int) (hl : l.length ≤ 1000000) (w : World) (hr : RowIs w g l) (hN : w.cell? ⟨N, 0, none⟩ = some (.int .u64 n)) (hNl : N < w.heap.size) :
    Calls Tryz.prog 98 #[.slice (some ⟨g, 0, none⟩) l.length cap, .func (.func 97) #[] #[.pointer (some ⟨N, 0, none⟩)]] w fun e w' => e = .returned (.int .i64 (seek (p_in n) l 0)) ∧ Below w.heap.size w w' := by
  have HR := Lib.hid (And.intro hr (And.intro hN hNl))
  clear hr hN hNl
  go_enter Tryz.func98, Tryz.ntmps98
  go_wp2
  go_loopw [8] (fun i wr => ∃ k : Nat, i = .int .i64 (k : Int) ∧ k ≤ l.length ∧ Hid (Below w.heap.size w wr ∧ ∀ j x, j < k → l[j]? = some x → p_in n x = false)) (fun i _ => l.length - (intOf i).toNat)
  case atStart => exact ⟨0, rfl, Nat.zero_le _, Lib.hid ⟨Below.refl _ _, fun j x hj => by omega⟩⟩
  case round =>
    obtain ⟨k, rfl, hk, HB⟩ := hrel
    by_cases hlt : k < l.length
    · obtain ⟨x, hx⟩ : ∃ x, l[k]? = some x := ⟨_, List.getElem?_eq_getElem hlt⟩
      have hc := (HR.out.1.below HB.out.1).2 k x hx
      have c0 : wr.cell? ⟨g, k * 2, none⟩ = some (.int .u64 x.1) := by have := hc.1; rwa [Nat.zero_add] at this
      have c1 : wr.cell? ⟨g, k * 2 + 1, none⟩ = some (.int .u64 x.2) := by have := hc.2; rwa [Nat.zero_add] at this
      have HN : Hid (wr.cell? ⟨N, 0, none⟩ = some (.int .u64 n) ∧ N < wr.heap.size) := Lib.hid ⟨(HB.out.1.cell (p := ⟨N, 0, none⟩) HR.out.2.2).trans HR.out.2.1, Nat.lt_of_lt_of_le HR.out.2.2 HB.out.1.size⟩
      have HXk := Lib.hid hx
      clear hc hx
      go_wp2_with fail
      refine (clo_in x n N _ HN.out.1 HN.out.2).mono ?_
      rintro _ w1 ⟨rfl, b1⟩
      have HB1 := Lib.hid (show Below w.heap.size w w1 from HB.out.1.trans (b1.mono HB.out.1.size))
      clear b1
      cases hp : p_in n x with
      | true =>
        have hs : seek (p_in n) l 0 = (k : Int) := by
          rw [seek_drop (p_in n) k l 0 HB.out.2, List.drop_eq_getElem_cons hlt]
          have hx' : l[k] = x := by have := HXk.out; rw [List.getElem?_eq_getElem hlt] at this; exact Option.some.inj this
          show (if p_in n l[k] then _ else _) = _
          rw [hx', hp, if_pos rfl]
          omega
        go_wp2
        go_ret
        exact ⟨by rw [hs]; rfl, HB1.out⟩
      | false =>
        go_wp2
        exact ⟨⟨k + 1, by go_num, by omega, Lib.hid ⟨HB1.out, fun j y hj hy => by
          by_cases hjk : j < k
          · exact HB.out.2 j y hjk hy
          · have : j = k := by omega
            subst this
            rw [HXk.out] at hy
            cases hy
            exact hp⟩⟩, by simp [intOf]; omega⟩
    · have hs : seek (p_in n) l 0 = -1 := by
        rw [seek_drop (p_in n) k l 0 HB.out.2, List.drop_eq_nil_of_le (by omega)]
        rfl
      go_wp2
      go_ret
      exact ⟨by rw [hs]; rfl, HB.out.1⟩
set_option maxRecDepth 20000 in
theorem idxn_in (N : Nat) (w : World) :
    Calls Tryz.prog 98 #[.slice none 0 0, .func (.func 97) #[] #[.pointer (some ⟨N, 0, none⟩)]] w fun e w' => e = .returned (.int .i64 (-1)) ∧ w' = w := by
  go_enter Tryz.func98, Tryz.ntmps98
  go_wp2
  refine wp_loop_rounds 1 ?_
  rw [rounds_succ]
  go_wp2
  go_ret
  exact ⟨rfl, rfl⟩
end Go.Proofs.YtpkkomifenlkaaaGreat.Gp
