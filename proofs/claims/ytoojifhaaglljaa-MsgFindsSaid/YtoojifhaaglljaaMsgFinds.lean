/- 'MsgFinds' holds for every input, with no condition: where a message stands first among others. -/
import Derived.Test.YtoojifhaaglljaaMsgOpen
import Derived.Lib.SmallJoins
namespace Go.Proofs.Ytoojifhaaglljaa.msgFinds
open Go.RowKit Msg

set_option maxHeartbeats 1000000 in
theorem awake_any (w : World) : Calls Try.prog 24 #[] w fun e w' => e = .returned (.bool true) ∧ Below w.heap.size w w' := by
  go_enter Try.func24, Try.ntmps24
  go_wp2
  go_ret
  exact ⟨rfl, ((Below.refl _ _).alloc (Nat.le_refl _) _).alloc (by simp) _⟩

set_option maxHeartbeats 1000000 in
theorem walk_long (A : Option Addr) (len cap : Nat) (x : M7) (w : World) (h : 40 < len) (hm : len ≤ 9223372036854775807) :
    Calls Try.prog 6 #[.slice A len cap, .agg x.cells] w fun e w' => e = .returned (.bool true) ∧ Below w.heap.size w w' := by
  have hp : (40 : Int) < (len : Int) := by omega
  unfold M7.cells
  go_enter Try.func6, Try.ntmps6
  go_wp2_with (go_at_call 24; ((with_reducible refine (awake_any _).mono ?_); rintro e w1 ⟨rfl, hb⟩))
  go_ret
  exact ⟨rfl, ((Below.refl _ _).alloc (Nat.le_refl _) _).trans (hb.mono (by simp))⟩

/-- The place of the first one of those from i on, told from behind. -/
theorem place_step (ms : List M7) (x : M7) (len i : Nat) (h : i < len) : place ms x (len - i) i = if same (ms.getD i ⟨0, 0, 0, 0, 0, .empty, .empty⟩) x then (i : Int) else place ms x (len - (i + 1)) (i + 1) := by
  rw [show len - i = len - (i + 1) + 1 from by omega, place]

set_option maxHeartbeats 2000000 in
theorem walk_short (A : Option Addr) (len cap : Nat) (ms : List M7) (x : M7) (w : World) (hr : Rd w A len ms) (h : len ≤ 40) :
    Calls Try.prog 6 #[.slice A len cap, .agg x.cells] w fun e w' => e = .returned (.bool true) ∧ Below w.heap.size w w' := by
  have hp : ¬ (40 : Int) < (len : Int) := by omega
  unfold M7.cells
  go_enter Try.func6, Try.ntmps6
  go_wp2
  go_loopw [5, 6] (fun a i wr => ∃ k : Nat, k ≤ len ∧ i = .int .i64 ((k : Int) - 1) ∧ a = .int .i64 (place ms x (len - k) k) ∧ ∃ n, wr = (w.alloc (.cells #[.int .i64 x.k, .int .i64 x.c, .int .i64 x.f, .int .u64 x.s, .int .u64 x.t, .string x.d, .string x.a] 42)).drewN n)
    (fun _ i _ => (intOf i + 1).toNat)
  case atStart => exact ⟨len, Nat.le_refl _, rfl, by rw [Nat.sub_self]; rfl, 0, rfl⟩
  case round =>
    obtain ⟨k, hk, rfl, rfl, n, rfl⟩ := hrel
    cases k with
    | succ k =>
      obtain ⟨b, off, rfl, hbl, hc⟩ := hr.2 (by omega)
      have hc := hc k (by omega)
      generalize hm : ms.getD k ⟨0, 0, 0, 0, 0, .empty, .empty⟩ = m at hc
      have c0 : (w.alloc (.cells #[.int .i64 x.k, .int .i64 x.c, .int .i64 x.f, .int .u64 x.s, .int .u64 x.t, .string x.d, .string x.a] 42)).cell? ⟨b, off + k * 7, none⟩ = some (.int .i64 m.k) := (World.cell?_alloc_lt w _ _ (by exact hbl)).trans (hc 0 _ rfl)
      have c1 : (w.alloc (.cells #[.int .i64 x.k, .int .i64 x.c, .int .i64 x.f, .int .u64 x.s, .int .u64 x.t, .string x.d, .string x.a] 42)).cell? ⟨b, off + k * 7 + 1, none⟩ = some (.int .i64 m.c) := (World.cell?_alloc_lt w _ _ (by exact hbl)).trans (hc 1 _ rfl)
      have c2 : (w.alloc (.cells #[.int .i64 x.k, .int .i64 x.c, .int .i64 x.f, .int .u64 x.s, .int .u64 x.t, .string x.d, .string x.a] 42)).cell? ⟨b, off + k * 7 + 2, none⟩ = some (.int .i64 m.f) := (World.cell?_alloc_lt w _ _ (by exact hbl)).trans (hc 2 _ rfl)
      have c3 : (w.alloc (.cells #[.int .i64 x.k, .int .i64 x.c, .int .i64 x.f, .int .u64 x.s, .int .u64 x.t, .string x.d, .string x.a] 42)).cell? ⟨b, off + k * 7 + 3, none⟩ = some (.int .u64 m.s) := (World.cell?_alloc_lt w _ _ (by exact hbl)).trans (hc 3 _ rfl)
      have c4 : (w.alloc (.cells #[.int .i64 x.k, .int .i64 x.c, .int .i64 x.f, .int .u64 x.s, .int .u64 x.t, .string x.d, .string x.a] 42)).cell? ⟨b, off + k * 7 + 4, none⟩ = some (.int .u64 m.t) := (World.cell?_alloc_lt w _ _ (by exact hbl)).trans (hc 4 _ rfl)
      have c5 : (w.alloc (.cells #[.int .i64 x.k, .int .i64 x.c, .int .i64 x.f, .int .u64 x.s, .int .u64 x.t, .string x.d, .string x.a] 42)).cell? ⟨b, off + k * 7 + 5, none⟩ = some (.string m.d) := (World.cell?_alloc_lt w _ _ (by exact hbl)).trans (hc 5 _ rfl)
      have c6 : (w.alloc (.cells #[.int .i64 x.k, .int .i64 x.c, .int .i64 x.f, .int .u64 x.s, .int .u64 x.t, .string x.d, .string x.a] 42)).cell? ⟨b, off + k * 7 + 6, none⟩ = some (.string m.a) := (World.cell?_alloc_lt w _ _ (by exact hbl)).trans (hc 6 _ rfl)
      have heq : ∀ W, (binOp .eql 42 (.agg #[.int .i64 m.k, .int .i64 m.c, .int .i64 m.f, .int .u64 m.s, .int .u64 m.t, .string m.d, .string m.a]) (.agg #[.int .i64 x.k, .int .i64 x.c, .int .i64 x.f, .int .u64 x.s, .int .u64 x.t, .string x.d, .string x.a])).run Try.prog W = .ok (.bool (same m x)) W := eq_run m x
      have HP := Lib.hid (place_step ms x len k (by omega))
      have HM := Lib.hid hm
      clear hc hm
      have hi0 : (0 : Int) ≤ (k : Int) := by omega
      have hi1 : (k : Int) < (len : Int) := by omega
      have hi2 : ((k + 1 : Nat) : Int) - 1 = (k : Int) := by omega
      rw [hi2]
      clear hi2
      by_cases hs : same m x = true
      · rw [hs] at heq
        go_wp2
        go_quiet (fail)
        go_wp2
        refine ⟨⟨k, by omega, rfl, ?_, _, rfl⟩, by simp [intOf]⟩
        rw [HP.out, HM.out, if_pos hs]
      · have hs' : same m x = false := by simpa using hs
        rw [hs'] at heq
        go_wp2
        go_quiet (fail)
        go_wp2
        refine ⟨⟨k, by omega, rfl, ?_, _, rfl⟩, by simp [intOf]⟩
        rw [HP.out, HM.out, if_neg hs]
    | zero =>
      have hW : Below w.heap.size w ((w.alloc (.cells #[.int .i64 x.k, .int .i64 x.c, .int .i64 x.f, .int .u64 x.s, .int .u64 x.t, .string x.d, .string x.a] 42)).drewN n) := below_drewN ((Below.refl _ _).alloc (Nat.le_refl _) _) n
      go_wp2_with fail
      refine (awake_any _).mono ?_
      rintro e w1 ⟨rfl, hb⟩
      have hlt : w.heap.size < w1.heap.size := by have := hb.size; simp at this; omega
      have hx : ∀ j v, (#[.int .i64 x.k, .int .i64 x.c, .int .i64 x.f, .int .u64 x.s, .int .u64 x.t, .string x.d, .string x.a] : Array Value)[j]? = some v → w1.cell? ⟨w.heap.size, j, none⟩ = some v := fun j v hv => by
        rw [hb.cell (p := ⟨w.heap.size, j, none⟩) (by simp)]
        simpa using hv
      have hall : Below w.heap.size w w1 := hW.trans (hb.mono (by simp))
      have hr1 := hr.below hall
      have x0 : w1.cell? ⟨w.heap.size, 0, none⟩ = some (.int .i64 x.k) := hx 0 _ rfl
      have x1 : w1.cell? ⟨w.heap.size, 1, none⟩ = some (.int .i64 x.c) := hx 1 _ rfl
      have x2 : w1.cell? ⟨w.heap.size, 2, none⟩ = some (.int .i64 x.f) := hx 2 _ rfl
      have x3 : w1.cell? ⟨w.heap.size, 3, none⟩ = some (.int .u64 x.s) := hx 3 _ rfl
      have x4 : w1.cell? ⟨w.heap.size, 4, none⟩ = some (.int .u64 x.t) := hx 4 _ rfl
      have x5 : w1.cell? ⟨w.heap.size, 5, none⟩ = some (.string x.d) := hx 5 _ rfl
      have x6 : w1.cell? ⟨w.heap.size, 6, none⟩ = some (.string x.a) := hx 6 _ rfl
      clear hx hb hW
      rw [Nat.sub_zero]
      go_wp2_with (go_at_call 25; ((refine (find_any A len cap ms x _ hr1 (by omega)).mono ?_); rintro e w2 ⟨rfl, hb2⟩))
      go_ret
      exact ⟨rfl, hall.trans (hb2.mono (Nat.le_of_lt hlt))⟩
set_option maxRecDepth 100000 in
theorem walk {H : Type} {enc : TypeId × Value → H} {spare spare' : Nat → Bool} {held held' : Bool} {w : World} {base : Nat} {v v' : Value} {d d' : DataW H} {p p' : List MemPlace}
    (ok : Value.okWide Try.prog w .any base 38 v) (h : DataW.Trod enc Try.prog w 0 spare held 38 v d p)
    (ok' : Value.okWide Try.prog w .any base 42 v') (h' : DataW.Trod enc Try.prog w 0 spare' held' 42 v' d' p') :
    Calls Try.prog 6 #[v, v'] w fun e w' => e = .returned (.bool true) ∧ Below w.heap.size w w' := by
  obtain ⟨A, len, cap, ms, rfl, hl, hr⟩ := open_msgs ok h
  obtain ⟨x, rfl⟩ := open_msg_val ok' h'
  unfold maxLen at hl
  by_cases hc : 40 < len
  · exact walk_long A len cap x w hc (by omega)
  · exact walk_short A len cap ms x w hr (by omega)
end Go.Proofs.Ytoojifhaaglljaa.msgFinds
