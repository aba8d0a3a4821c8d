/- event's own iterator over the events of a kind. -/
import Derived.Test.YtnidafgjbocfcaaEvent
import Derived.RangeFuncNested
import Derived.RangeFuncBound
import Derived.RangeFuncCalls
import Derived.RangeFuncLeaves
import Derived.Shelf.Abstract
import Derived.Shelf.RegionOpen
import Derived.OwnWalkIn
import Derived.TacticsInMore
import Derived.LoopNIn
import Derived.LoopIn
namespace Go.Proofs.Ytnidafgjbocfcaa.Ev
open Go Go.RowKit Go.Shelf
attribute [local go_sem] Oper.semAt_some

theorem of_any (A : Option Addr) (len cap : Nat) (kind : Int) (w : World) : Calls Try.prog 50 #[.slice A len cap, .int .i64 kind] w fun e w' =>
    e = .returned (.func (.func 72) #[] #[.pointer (some ⟨w.heap.size, 0, none⟩), .pointer (some ⟨w.heap.size + 1, 0, none⟩)]) ∧ w' = (w.alloc (.cells #[.slice A len cap] 36)).alloc (.cells #[.int .i64 kind] 3) := by
  go_enter Try.func50, Try.ntmps50
  go_wp2
  go_ret
  exact ⟨rfl, rfl⟩

/-- What a round that goes on keeps: what lay before, and the box of the kind. -/
def Kp (n₀ Bk : Nat) (W W' : World) : Prop := Below n₀ W W' ∧ ∀ v, Boxed W Bk 3 v → Boxed W' Bk 3 v

theorem Kp.refl (n₀ Bk : Nat) (W : World) : Kp n₀ Bk W W := ⟨Below.refl _ _, fun _ h => h⟩
theorem Kp.t {n₀ Bk : Nat} {A B C : World} (h : Kp n₀ Bk A B) (k : Kp n₀ Bk B C) : Kp n₀ Bk A C := ⟨h.1.trans k.1, fun v hv => k.2 v (h.2 v hv)⟩
theorem Kp.b {n₀ Bk : Nat} {w : World} (hn : n₀ ≤ w.heap.size) (W : World) (l : Nat) (o o' : Obj) (hl : w.heap.size ≤ l) (h : W.heap[l]? = some o) (hc : o.isCells = false) (hw : o.isWalk = false) : Kp n₀ Bk W (W.putObj l o') :=
  ⟨belowK_b hn W l o o' hl h hc hw, fun v hv => hv.kept (grownBy_putObj' W l o') (fun e => by
    injection e with e
    subst e
    rw [show W.heap[Bk]? = _ from hv] at h
    cases h
    cases hc)⟩
theorem Kp.alloc {n₀ Bk : Nat} {W : World} (hn : n₀ ≤ W.heap.size) (o : Obj) : Kp n₀ Bk W (W.alloc o) := ⟨(Below.refl _ _).alloc hn _, fun _ hv => hv.alloc o⟩

def encs (x : Nat × E8) : Array Value := #[.int .i64 (x.1 : Int), .agg #[.int .i64 x.2.k, .int .u64 x.2.h, .int .i64 x.2.c, .int .i64 x.2.f, .int .u64 x.2.s, .int .u64 x.2.t, .string x.2.d, .string x.2.a]]

set_option maxRecDepth 100000 in
set_option maxHeartbeats 2000000 in
theorem of1_in (n : Nat) (hn : 1 ≤ n) (l Bl Bk : Nat) (A : Option Addr) (len cap : Nat) (es : List E8) (kind : Int) (w : World) (hr : Rd w A len es) (hlen : len ≤ 9223372036854775807) (J Jx : List (Nat × E8) → World → Prop)
    (hJa : ∀ pre W o, J pre W → J pre (W.alloc o))
    (hY : ∀ pre x W, J pre W → pre.length < len → YieldAt Fence.wide (n - 1) Try.prog l (encs x) W fun e W' =>
      (e = .returned (.bool true) ∧ J (pre ++ [x]) W' ∧ Kp w.heap.size Bk W W') ∨ (e = .returned (.bool false) ∧ Jx (pre ++ [x]) W'))
    (W : World) (hBl : W.cell? ⟨Bl, 0, none⟩ = some (.slice A len cap)) (hBk : Boxed W Bk 3 (.int .i64 kind)) (hB : Below w.heap.size w W) (h0 : J [] W) :
    CallsIn Fence.wide n Try.prog 72 #[.func (.yield l) #[] #[], .pointer (some ⟨Bl, 0, none⟩), .pointer (some ⟨Bk, 0, none⟩)] W fun e W' => (∃ v, e = .returned v) ∧
      ((∃ ys, ys = comes es kind len ∧ J ys W') ∨ (∃ pre, (∃ k, k < len ∧ (es.getD k e0).k = kind ∧ pre = comes es kind k ++ [(k, es.getD k e0)]) ∧ Jx pre W')) := by
  refine callsIn_of_wp Try.func72 rfl trivial ?_
  simp only [Try.ntmps72, List.size_toArray, List.length_cons, List.length_nil, Nat.reduceAdd, Nat.reduceSub, Array.replicate_succ, Array.replicate_zero, List.push_toArray, List.append_toArray, List.nil_append, List.cons_append]
  gi_wp2
  gi_loopw [8] (fun i wr => ∃ k : Nat, k ≤ len ∧ i = .int .i64 k ∧ Hid (J (comes es kind k) wr) ∧ Hid (Below w.heap.size w wr) ∧ Boxed wr Bk 3 (.int .i64 kind))
    (fun i _ => len - (intOf i).toNat)
  case atStart => exact ⟨0, Nat.zero_le _, rfl, Lib.hid h0, Lib.hid hB, hBk⟩
  case round =>
    obtain ⟨k, hk, rfl, hJs, hnx, hbk⟩ := hrel
    by_cases hlt : k < len
    · obtain ⟨b, off, rfl, hbl, hc⟩ := hr.at hnx.out (by omega)
      have hck := hc k hlt
      clear hc
      have hcs := comes_len es kind k
      have HY := Lib.hid (comes_yes (es := es) (kind := kind) (n := k))
      have HN := Lib.hid (comes_no (es := es) (kind := kind) (n := k))
      have HM := Lib.hid (show ∃ m, es.getD k e0 = m from ⟨_, rfl⟩)
      obtain ⟨m, hm⟩ := HM.out
      rw [hm] at hck
      have hba : b < wr.heap.size := Nat.lt_of_lt_of_le hbl hnx.out.size
      obtain ⟨c0, c1, c2, c3, c4, c5, c6, c7⟩ := hck
      have hkc := hbk.cell
      have hk2 := (hbk.alloc (.cells #[.int .i64 m.k, .int .u64 m.h, .int .i64 m.c, .int .i64 m.f, .int .u64 m.s, .int .u64 m.t, .string m.d, .string m.a] 40)).cell
      have hi0 : (0 : Int) ≤ (k : Int) := by omega
      have hi1 : (k : Int) < (len : Int) := by omega
      have HB := Lib.hid hbk
      have HJ := Lib.hid (hJa _ _ (.cells #[.int .i64 m.k, .int .u64 m.h, .int .i64 m.c, .int .i64 m.f, .int .u64 m.s, .int .u64 m.t, .string m.d, .string m.a] 40) hJs.out)
      have HA := Lib.hid hJa
      have HR := Lib.hid hr
      have HYY := Lib.hid hY
      have HH := Lib.hid hm
      clear hbk hJa hr hY hm
      by_cases hs : m.k = kind
      · have hs1 : (m.k == kind) = true := by simp [hs]
        obtain ⟨fn, tmps, assign, body, hy, hRd⟩ := HYY.out _ (k, m) _ HJ.out (by omega)
        dsimp only [encs] at hy
        have HD := Lib.hid hRd
        have HS := Lib.hid hs
        clear hRd hs
        gi_wp2
        refine HD.out.mono ?_
        rintro e W3 (⟨rfl, hJ3, hk3⟩ | ⟨rfl, hJx3⟩)
        · have H3 := Lib.hid (And.intro hJ3 hk3)
          clear hJ3 hk3
          gi_wp2
          go_roundw
          case rel => exact ⟨k + 1, by omega, by go_num, Lib.hid (by rw [HY.out (by rw [HH.out]; exact HS.out), HH.out]; exact H3.out.1), Lib.hid ((hnx.out.alloc hnx.out.size _).trans H3.out.2.1), H3.out.2.2 _ (HB.out.alloc _)⟩
          case measure => simp [intOf]; omega
        · have H3 := Lib.hid hJx3
          clear hJx3
          gi_wp2
          refine bodyPost_ret (results_none rfl _ _ _) rfl ?_
          exact ⟨⟨_, rfl⟩, .inr ⟨_, ⟨k, hlt, by rw [HH.out]; exact HS.out, rfl⟩, by rw [HH.out]; exact H3.out⟩⟩
      · have hs1 : (m.k == kind) = false := by simpa using hs
        gi_wp2
        refine ⟨fun _ h => (by cases h), ?_⟩
        gi_wp2
        go_roundw
        case rel => exact ⟨k + 1, by omega, by go_num, Lib.hid (by rw [HN.out (by rw [HH.out]; exact hs)]; exact HJ.out), Lib.hid (hnx.out.alloc hnx.out.size _), HB.out.alloc _⟩
        case measure => simp [intOf]; omega
    · obtain rfl : k = len := by omega
      gi_wp2
      go_end0
      exact ⟨⟨_, rfl⟩, .inl ⟨_, rfl, hJs.out⟩⟩

/-- Which events come: all of the kind, or up to one at which a round has stopped. -/
theorem of_stops (n : Nat) (hn : 1 ≤ n) (Bl Bk : Nat) (A : Option Addr) (len cap : Nat) (es : List E8) (kind : Int) (w w1 : World) (hr : Rd w A len es) (hlen : len ≤ 9223372036854775807)
    (hBl : w1.cell? ⟨Bl, 0, none⟩ = some (.slice A len cap)) (hl1 : Bl < w1.heap.size) (hBk : Boxed w1 Bk 3 (.int .i64 kind)) (hB : Below w.heap.size w w1) :
    SeqStopsK Fence.wide n Try.prog 72 #[.pointer (some ⟨Bl, 0, none⟩), .pointer (some ⟨Bk, 0, none⟩)] encs (Kp w.heap.size Bk) (fun ys => ys = comes es kind len)
      (fun pre => ∃ k, k < len ∧ (es.getD k e0).k = kind ∧ pre = comes es kind k ++ [(k, es.getD k e0)]) len w1 := fun l J Jx W hW hJ _ hY h0 =>
  of1_in n hn l Bl Bk A len cap es kind w hr hlen J Jx (fun pre W o h => hJ pre W _ none h (World.grownBy_alloc W o none) (fun r e => by cases e)) hY W ((hW.cell (p := ⟨Bl, 0, none⟩) hl1).trans hBl)
    ((hW.block Bk hBk.lt).trans hBk) (hB.trans (hW.mono hB.size)) h0
end Go.Proofs.Ytnidafgjbocfcaa.Ev
