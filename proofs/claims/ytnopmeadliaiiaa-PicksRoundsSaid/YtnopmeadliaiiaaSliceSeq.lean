/- slices.Values, AppendSeq, Collect: a slice's numbers gathered anew. -/
import Derived.Test.YtnopmeadliaiiaaPickMiss
import Derived.RangeFuncNested
import Derived.RangeFuncBound
import Derived.RangeFuncCalls
import Derived.RangeFuncLeaves
import Derived.RangeFuncBox
import Derived.Maps.AppendAt
import Derived.Shelf.Abstract
import Derived.Shelf.RegionOpen
import Derived.OwnWalkIn
import Derived.TacticsInMore
import Derived.LoopNIn
import Derived.LoopIn
namespace Go.Proofs.Ytnopmeadliaiiaa.Picks
open Go Go.RowKit Go.Shelf picksNext
attribute [local go_sem] Oper.semAt_some

theorem values_any (A : Option Addr) (len cap : Nat) (w : World) : Calls Try.prog 23 #[.slice A len cap] w fun e w' =>
    e = .returned (.func (.func 29) #[] #[.pointer (some ⟨w.heap.size, 0, none⟩)]) ∧ w' = w.alloc (.cells #[.slice A len cap] 22) := by
  go_enter Try.func23, Try.ntmps23
  go_wp2
  go_ret
  exact ⟨rfl, rfl⟩

set_option maxRecDepth 100000 in
set_option maxHeartbeats 2000000 in
theorem values1_in (n : Nat) (hn : 1 ≤ n) (l Bl n₀ : Nat) (A : Option Addr) (len cap : Nat) (zs : List Int) (w : World) (hw : n₀ = w.heap.size) (hr : Rd w A len zs) (hzl : zs.length = len) (hlen : len ≤ 9223372036854775807) (J Jx : List Int → World → Prop)
    (hY : ∀ pre x W, J pre W → pre.length < len → YieldAt Fence.wide (n - 1) Try.prog l #[.int .i64 x] W fun e W' =>
      (e = .returned (.bool true) ∧ J (pre ++ [x]) W' ∧ Below n₀ W W') ∨ (e = .returned (.bool false) ∧ Jx (pre ++ [x]) W'))
    (W : World) (hBl : W.cell? ⟨Bl, 0, none⟩ = some (.slice A len cap)) (hB : Below n₀ w W) (h0 : J [] W) :
    CallsIn Fence.wide n Try.prog 29 #[.func (.yield l) #[] #[], .pointer (some ⟨Bl, 0, none⟩)] W fun e W' => (∃ v, e = .returned v) ∧
      ((∃ ys, ys = zs ∧ J ys W') ∨ (∃ pre, True ∧ Jx pre W')) := by
  refine callsIn_of_wp Try.func29 rfl trivial ?_
  simp only [Try.ntmps29, List.size_toArray, List.length_cons, List.length_nil, Nat.reduceAdd, Nat.reduceSub, Array.replicate_succ, Array.replicate_zero, List.push_toArray, List.append_toArray, List.nil_append, List.cons_append]
  gi_wp2
  gi_loopw [7] (fun i wr => ∃ k : Nat, k ≤ len ∧ i = .int .i64 k ∧ Hid (J (zs.take k) wr) ∧ Hid (Below n₀ w wr))
    (fun i _ => len - (intOf i).toNat)
  case atStart => exact ⟨0, Nat.zero_le _, rfl, Lib.hid h0, Lib.hid hB⟩
  case round =>
    obtain ⟨k, hk, rfl, hJs, hnx⟩ := hrel
    by_cases hlt : k < len
    · obtain ⟨b, off, rfl, hbl, hc⟩ := (hr.below (by have := hnx.out; rwa [hw] at this)) (by omega)
      have hck := hc k hlt
      have HT := Lib.hid (take_snoc zs k (by omega))
      obtain ⟨z, hz⟩ : ∃ z, z = zs.getD k 0 := ⟨_, rfl⟩
      rw [← hz] at hck HT
      have hi0 : (0 : Int) ≤ (k : Int) := by omega
      have hi1 : (k : Int) < (len : Int) := by omega
      obtain ⟨fn, tmps, assign, body, hy, hRd⟩ := hY (zs.take k) z wr hJs.out (by simp; omega)
      have HD := Lib.hid hRd
      have HH := Lib.hid (And.intro hr (And.intro hY hJs.out))
      clear hc hz hr hY hRd hbl
      gi_wp2
      refine HD.out.mono ?_
      rintro e W3 (⟨rfl, hJ3, hk3⟩ | ⟨rfl, hJx3⟩)
      · have H3 := Lib.hid (And.intro hJ3 hk3)
        clear hJ3 hk3
        gi_wp2
        go_roundw
        case rel => exact ⟨k + 1, by omega, by go_num, Lib.hid (by rw [HT.out]; exact H3.out.1), Lib.hid (hnx.out.trans H3.out.2)⟩
        case measure => simp [intOf]; omega
      · have H3 := Lib.hid hJx3
        clear hJx3
        gi_wp2
        refine bodyPost_ret (results_none rfl _ _ _) rfl ?_
        exact ⟨⟨_, rfl⟩, .inr ⟨_, trivial, H3.out⟩⟩
    · obtain rfl : k = len := by omega
      gi_wp2
      go_end0
      exact ⟨⟨_, rfl⟩, .inl ⟨_, rfl, by have := hJs.out; rwa [List.take_of_length_le (by omega)] at this⟩⟩

theorem values_stops (n : Nat) (hn : 1 ≤ n) (Bl : Nat) (A : Option Addr) (len cap : Nat) (zs : List Int) (w w1 : World) (hr : Rd w A len zs) (hzl : zs.length = len) (hlen : len ≤ 9223372036854775807)
    (hBl : w1.cell? ⟨Bl, 0, none⟩ = some (.slice A len cap)) (hl1 : Bl < w1.heap.size) (hB : Below w.heap.size w w1) :
    SeqStopsK Fence.wide n Try.prog 29 #[.pointer (some ⟨Bl, 0, none⟩)] (fun x : Int => #[Value.int .i64 x]) (Below w.heap.size) (fun ys => ys = zs) (fun _ => True) len w1 := fun l J Jx W hW _ _ hY h0 =>
  values1_in n hn l Bl w.heap.size A len cap zs w rfl hr hzl hlen J Jx hY W ((hW.cell (p := ⟨Bl, 0, none⟩) hl1).trans hBl) (hB.trans (hW.mono hB.size)) h0

set_option maxRecDepth 100000 in
set_option maxHeartbeats 2000000 in
theorem appseq_any (Bl : Nat) (A : Option Addr) (len cap : Nat) (zs : List Int) (w : World) (hr : Rd w A len zs) (hzl : zs.length = len) (hlen : len ≤ 1000000) (hBl : w.cell? ⟨Bl, 0, none⟩ = some (.slice A len cap)) (hl1 : Bl < w.heap.size) :
    Calls Try.prog 30 #[.slice none 0 0, .func (.func 29) #[] #[.pointer (some ⟨Bl, 0, none⟩)]] w fun e w' => (∃ u, e = .returned u ∧ w'.ownsRow w.heap.size 3 1 u zs.length (ints zs)) ∧ Below w.heap.size w w' := by
  obtain ⟨i0, hi, hz0, hz1, hz2⟩ := info_parts infoI
  refine (callsIn_wide (n := 6)).1 ?_
  refine callsIn_of_wp_marks Try.func30 rfl trivial ?_
  simp only [Try.ntmps30, List.size_toArray, List.length_cons, List.length_nil, Nat.reduceAdd, Nat.reduceSub, Array.replicate_succ, Array.replicate_zero, List.push_toArray, List.append_toArray, List.nil_append, List.cons_append]
  gi_wp2
  have hB0 : Below w.heap.size w (w.alloc (.cells #[.slice none 0 0] 22)) := (Below.refl _ w).alloc (Nat.le_refl _) _
  have bO := Boxed.new w 22 (.slice none 0 0)
  have hsz : (w.alloc (.cells #[.slice none 0 0] 22)).heap.size = w.heap.size + 1 := by simp
  have hcl : (w.alloc (.cells #[.slice none 0 0] 22)).cell? ⟨Bl, 0, none⟩ = some (.slice A len cap) := (hB0.cell (p := ⟨Bl, 0, none⟩) hl1).trans hBl
  obtain ⟨W0, hW0⟩ : ∃ W0, w.alloc (.cells #[.slice none 0 0] 22) = W0 := ⟨_, rfl⟩
  rw [hW0] at hB0 bO hsz hcl ⊢
  clear hW0
  refine wpIn_rangeFunc_ownH rfl (by decide) (gf := 29) (lb := #[.pointer (some ⟨Bl, 0, none⟩)]) rfl trivial (enters_of Try.func29 (by kernel_rfl) rfl)
    (values_stops 5 (by decide) Bl A len cap zs w W0 hr hzl (by omega) hcl (by omega) hB0) (fun h k => h.trans k) (belowK_b (by omega)) (Below.refl _ _) (fun _ => rfl)
    (fun pre W => (∃ v, Boxed W w.heap.size 22 v ∧ W.ownsRow w.heap.size 3 1 v pre.length (ints pre) ∧ True) ∧ Below w.heap.size w W)
    (fun _ _ _ => False)
    (OwnFrom.and (Own.from (holdsRow_own w.heap.size w.heap.size 22 3 1 (fun pre => pre.length) (fun pre => ints pre) (fun _ _ => True)) _) (ownFrom_below (Nat.le_refl _) (by omega)))
    (fun _ _ _ _ _ hs _ _ => hs)
    ⟨⟨_, bO, World.ownsRow_nil _ _ _ _, trivial⟩, hB0⟩
    (fun x a' _ => a' = { tmps := #[.slice none 0 0, .func (.func 29) #[] #[.pointer (some ⟨Bl, 0, none⟩)], .pointer (some ⟨w.heap.size, 0, none⟩), undef, .slice none 0 0, .int .i64 x, .func (.func 29) #[] #[.pointer (some ⟨Bl, 0, none⟩)], .int .i64 x, undef, undef, undef, undef, undef], defers := [] })
    (fun x a' _ X Y row hs hg hr => hs)
    ?assign ?body ?done ?stop
  case assign =>
    rintro l pre x W K ⟨⟨v, hv, hrow, _⟩, hB⟩ hK
    gi_wp2
    exact hK _ _ (KeepsFrom.refl _ _) (Below.refl _ _) ⟨⟨v, hv, hrow, trivial⟩, hB⟩ rfl
  case body =>
    rintro l pre x a' W hl ⟨r, hlr⟩ ⟨⟨v, hv, hrow, _⟩, hB⟩ rfl hlt
    have v0 := hv.cell
    gi_wp2_with (gi_at_builtin; refine wpListIn_append_own _ rfl _ _ 22 rfl w.heap.size 3 i0 _ 1 8 Try.underlying22 hi hz0 hz1 hz2 rfl (by decide) _ _ _ rfl (hrow.alloc _) ⟨W.heap.size, 0, none⟩ 1 1 [.int .i64 x] rfl rfl (cell_one_new _ _ _) (one_one rfl) (by unfold maxLen; omega) (by omega) (by have := hB.size; simp; omega) ?_; intro v' w1 hown' hgrow _; obtain ⟨g', cap', rfl⟩ := ownsRow_succ hown'; obtain ⟨hv1, hv2, hr2, hk2, hb2⟩ := hv.appended (by decide) hrow hB.size (by omega) hown' hgrow; have hc1 := hv1.cell; have hf1 := hv1.frozen)
    refine ⟨hk2.from _, hb2, ⟨⟨_, hv2, ?_, trivial⟩, hB.trans hb2⟩⟩
    rw [List.length_append, List.length_singleton]
    have : ints (pre ++ [x]) = ints pre ++ [.int .i64 x] := by simp [ints]
    rw [this]
    exact hr2
  case done =>
    rintro D ys W hD rfl ⟨⟨v, hv, hrow, _⟩, hB⟩ hK
    have c0 := hv.cell
    gi_wp2
    refine ⟨by simp, .inl ⟨_, _, rfl, run_takeDeferred hK, ?_⟩⟩
    exact ⟨_, results_tmp rfl _ _ _, ⟨v, rfl, ownsRow_putObj hrow _ hK rfl⟩, hB.trans (belowK_b (w := w) (Nat.le_refl _) W D _ _ (by omega) hK rfl rfl)⟩
  case stop =>
    rintro D c pre W _ _ h _
    exact h.elim

theorem collect_any (Bl : Nat) (A : Option Addr) (len cap : Nat) (zs : List Int) (w : World) (hr : Rd w A len zs) (hzl : zs.length = len) (hlen : len ≤ 1000000) (hBl : w.cell? ⟨Bl, 0, none⟩ = some (.slice A len cap)) (hl1 : Bl < w.heap.size) :
    Calls Try.prog 27 #[.func (.func 29) #[] #[.pointer (some ⟨Bl, 0, none⟩)]] w fun e w' => (∃ u, e = .returned u ∧ w'.ownsRow w.heap.size 3 1 u zs.length (ints zs)) ∧ Below w.heap.size w w' := by
  subst hzl
  have HA := Lib.hid (appseq_any Bl A zs.length cap zs w hr rfl hlen hBl hl1)
  clear hr hBl
  go_enter Try.func27, Try.ntmps27
  go_wp2_with fail
  refine HA.out.mono ?_
  rintro e w1 ⟨⟨u, rfl, hrow⟩, hb⟩
  have HZ := Lib.hid (And.intro hrow hb)
  obtain ⟨A1, c1, hu⟩ := own_form hrow
  subst hu
  clear hrow hb
  go_wp2
  go_ret
  exact ⟨⟨_, rfl, HZ.out.1⟩, HZ.out.2⟩
end Go.Proofs.Ytnopmeadliaiiaa.Picks
