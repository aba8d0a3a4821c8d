/- conf.Check: the first field that isn't right. -/
import Derived.Test.YtpkkomifenlkaaaGreatCommon
import Derived.Laws.EntriesVeiled
namespace Go.Proofs.YtpkkomifenlkaaaGreat.Conf
open Go.RowKit

/-- A config's fields. -/
structure Cfg where
  A : Option Addr
  n : Nat
  cap : Nat
  f1 : Int
  f2 : Int
  f3 : Int
  f4 : Int
  f5 : Int
  f6 : Int
  f7 : Int
  f8 : Int
  f9 : Int
  f10 : Int
  f11 : Int

def Cfg.cells (c : Cfg) : Array Value := #[.slice c.A c.n c.cap, .int .i64 c.f1, .int .i64 c.f2, .int .i64 c.f3, .int .i64 c.f4, .int .i64 c.f5, .int .i64 c.f6, .int .i64 c.f7, .int .i64 c.f8, .int .i64 c.f9, .int .i64 c.f10, .int .u64 c.f11]
def Cfg.at (c : Cfg) : Nat → Int
  | 0 => (c.n : Int)
  | 1 => c.f1
  | 2 => c.f2
  | 3 => c.f3
  | 4 => c.f4
  | 5 => c.f5
  | 6 => c.f6
  | 7 => c.f7
  | 8 => c.f8
  | 9 => c.f9
  | 10 => c.f10
  | _ => 0
def word : Nat → ByteArray
  | 0 => ⟨#[99, 104, 97, 110, 110, 101, 108, 115]⟩
  | 1 => ⟨#[97, 99, 99, 111, 117, 110, 116, 115]⟩
  | 2 => ⟨#[115, 104, 97, 114, 100, 115]⟩
  | 3 => ⟨#[114, 111, 111, 109]⟩
  | 4 => ⟨#[112, 111, 111, 108]⟩
  | 5 => ⟨#[98, 108, 111, 99, 107]⟩
  | 6 => ⟨#[98, 97, 116, 99, 104]⟩
  | 7 => ⟨#[116, 120, 115]⟩
  | 8 => ⟨#[115, 99, 97, 110]⟩
  | 9 => ⟨#[113, 117, 101, 117, 101]⟩
  | 10 => ⟨#[119, 97, 105, 116]⟩
  | _ => ⟨#[]⟩
def lo : Nat → Int | 10 => 0 | _ => 1
def hi : Nat → Int
  | 0 => 4
  | 1 => 4
  | 2 => 8
  | 3 => 64
  | 4 => 32
  | 5 => 16
  | 6 => 8
  | 7 => 4
  | 8 => 8
  | 9 => 16
  | 10 => 8
  | _ => 0
def fn : Nat → Nat
  | 0 => 77
  | 1 => 78
  | 2 => 79
  | 3 => 80
  | 4 => 81
  | 5 => 82
  | 6 => 83
  | 7 => 84
  | 8 => 85
  | 9 => 86
  | 10 => 87
  | _ => 0

set_option maxHeartbeats 400000 in
theorem of_0 (c : Cfg) (w : World) : Calls Tryz.prog 77 #[.agg c.cells] w fun e w' => e = .returned (.int .i64 (c.at 0)) ∧ Below w.heap.size w w' := by
  unfold Cfg.cells
  go_enter Tryz.func77, Tryz.ntmps77
  go_wp2
  go_ret
  exact ⟨rfl, (Below.refl _ _).alloc (Nat.le_refl _) _⟩

set_option maxHeartbeats 400000 in
theorem of_1 (c : Cfg) (w : World) : Calls Tryz.prog 78 #[.agg c.cells] w fun e w' => e = .returned (.int .i64 (c.at 1)) ∧ Below w.heap.size w w' := by
  unfold Cfg.cells
  go_enter Tryz.func78, Tryz.ntmps78
  go_wp2
  go_ret
  exact ⟨rfl, (Below.refl _ _).alloc (Nat.le_refl _) _⟩

set_option maxHeartbeats 400000 in
theorem of_2 (c : Cfg) (w : World) : Calls Tryz.prog 79 #[.agg c.cells] w fun e w' => e = .returned (.int .i64 (c.at 2)) ∧ Below w.heap.size w w' := by
  unfold Cfg.cells
  go_enter Tryz.func79, Tryz.ntmps79
  go_wp2
  go_ret
  exact ⟨rfl, (Below.refl _ _).alloc (Nat.le_refl _) _⟩

set_option maxHeartbeats 400000 in
theorem of_3 (c : Cfg) (w : World) : Calls Tryz.prog 80 #[.agg c.cells] w fun e w' => e = .returned (.int .i64 (c.at 3)) ∧ Below w.heap.size w w' := by
  unfold Cfg.cells
  go_enter Tryz.func80, Tryz.ntmps80
  go_wp2
  go_ret
  exact ⟨rfl, (Below.refl _ _).alloc (Nat.le_refl _) _⟩

set_option maxHeartbeats 400000 in
theorem of_4 (c : Cfg) (w : World) : Calls Tryz.prog 81 #[.agg c.cells] w fun e w' => e = .returned (.int .i64 (c.at 4)) ∧ Below w.heap.size w w' := by
  unfold Cfg.cells
  go_enter Tryz.func81, Tryz.ntmps81
  go_wp2
  go_ret
  exact ⟨rfl, (Below.refl _ _).alloc (Nat.le_refl _) _⟩

set_option maxHeartbeats 400000 in
theorem of_5 (c : Cfg) (w : World) : Calls Tryz.prog 82 #[.agg c.cells] w fun e w' => e = .returned (.int .i64 (c.at 5)) ∧ Below w.heap.size w w' := by
  unfold Cfg.cells
  go_enter Tryz.func82, Tryz.ntmps82
  go_wp2
  go_ret
  exact ⟨rfl, (Below.refl _ _).alloc (Nat.le_refl _) _⟩

set_option maxHeartbeats 400000 in
theorem of_6 (c : Cfg) (w : World) : Calls Tryz.prog 83 #[.agg c.cells] w fun e w' => e = .returned (.int .i64 (c.at 6)) ∧ Below w.heap.size w w' := by
  unfold Cfg.cells
  go_enter Tryz.func83, Tryz.ntmps83
  go_wp2
  go_ret
  exact ⟨rfl, (Below.refl _ _).alloc (Nat.le_refl _) _⟩

set_option maxHeartbeats 400000 in
theorem of_7 (c : Cfg) (w : World) : Calls Tryz.prog 84 #[.agg c.cells] w fun e w' => e = .returned (.int .i64 (c.at 7)) ∧ Below w.heap.size w w' := by
  unfold Cfg.cells
  go_enter Tryz.func84, Tryz.ntmps84
  go_wp2
  go_ret
  exact ⟨rfl, (Below.refl _ _).alloc (Nat.le_refl _) _⟩

set_option maxHeartbeats 400000 in
theorem of_8 (c : Cfg) (w : World) : Calls Tryz.prog 85 #[.agg c.cells] w fun e w' => e = .returned (.int .i64 (c.at 8)) ∧ Below w.heap.size w w' := by
  unfold Cfg.cells
  go_enter Tryz.func85, Tryz.ntmps85
  go_wp2
  go_ret
  exact ⟨rfl, (Below.refl _ _).alloc (Nat.le_refl _) _⟩

set_option maxHeartbeats 400000 in
theorem of_9 (c : Cfg) (w : World) : Calls Tryz.prog 86 #[.agg c.cells] w fun e w' => e = .returned (.int .i64 (c.at 9)) ∧ Below w.heap.size w w' := by
  unfold Cfg.cells
  go_enter Tryz.func86, Tryz.ntmps86
  go_wp2
  go_ret
  exact ⟨rfl, (Below.refl _ _).alloc (Nat.le_refl _) _⟩

set_option maxHeartbeats 400000 in
theorem of_10 (c : Cfg) (w : World) : Calls Tryz.prog 87 #[.agg c.cells] w fun e w' => e = .returned (.int .i64 (c.at 10)) ∧ Below w.heap.size w w' := by
  unfold Cfg.cells
  go_enter Tryz.func87, Tryz.ntmps87
  go_wp2
  go_ret
  exact ⟨rfl, (Below.refl _ _).alloc (Nat.le_refl _) _⟩

theorem of_any (c : Cfg) (k : Nat) (hk : k < 11) (w : World) : Calls Tryz.prog (fn k) #[.agg c.cells] w fun e w' => e = .returned (.int .i64 (c.at k)) ∧ Below w.heap.size w w' := by
  match k, hk with
  | 0, _ => exact of_0 c w
  | 1, _ => exact of_1 c w
  | 2, _ => exact of_2 c w
  | 3, _ => exact of_3 c w
  | 4, _ => exact of_4 c w
  | 5, _ => exact of_5 c w
  | 6, _ => exact of_6 c w
  | 7, _ => exact of_7 c w
  | 8, _ => exact of_8 c w
  | 9, _ => exact of_9 c w
  | 10, _ => exact of_10 c w

/-- What a field's closure holds on to. -/
def Cap (w : World) (p : Nat) (l h : Int) (F : Nat) : Prop :=
  p + 2 < w.heap.size ∧ w.cell? ⟨p, 0, none⟩ = some (.int .i64 l) ∧ w.cell? ⟨p + 1, 0, none⟩ = some (.int .i64 h) ∧ w.cell? ⟨p + 2, 0, none⟩ = some (.func (.func F) #[] #[])

theorem Cap.below {w w' : World} {p F : Nat} {l h : Int} (H : Cap w p l h F) (hb : Below w.heap.size w w') : Cap w' p l h F := by
  obtain ⟨h0, h1, h2, h3⟩ := H
  have := hb.size
  exact ⟨by omega, (hb.cell (p := ⟨p, 0, none⟩) (by show p < _; omega)).trans h1, (hb.cell (p := ⟨p + 1, 0, none⟩) (by show p + 1 < _; omega)).trans h2, (hb.cell (p := ⟨p + 2, 0, none⟩) h0).trans h3⟩

def clo (p : Nat) : Value := .func (.func 76) #[] #[.pointer (some ⟨p + 2, 0, none⟩), .pointer (some ⟨p, 0, none⟩), .pointer (some ⟨p + 1, 0, none⟩)]

theorem heap_alloc_at (w : World) (cs : Array Value) (t : TypeId) (k : Nat) (h : k = w.heap.size) : (w.alloc (.cells cs t)).heap[k]? = some (.cells cs t (0, 0)) := h ▸ heap_alloc_new w _

set_option maxHeartbeats 400000 in
theorem one_any (s : ByteArray) (l h : Int) (F : Nat) (w : World) :
    Calls Tryz.prog 75 #[.string s, .int .i64 l, .int .i64 h, .func (.func F) #[] #[]] w fun e w' => e = .returned (.agg #[.string s, clo w.heap.size]) ∧ Below w.heap.size w w' ∧ Cap w' w.heap.size l h F := by
  have hmf : ∀ (fn : Fn) (first cap : Array Value) (w : World), (Instr.makeFunc fn first cap).run Tryz.prog w = .ok (.func fn first cap) w := fun _ _ _ _ => rfl
  go_enter Tryz.func75, Tryz.ntmps75
  go_wp2
  refine bodyPost_ret (v := .agg #[.string s, clo w.heap.size]) (by simp [results, Tryz.results75, go_sem, clo]) rfl ⟨rfl, ?_⟩
  refine ⟨((((Below.refl _ _).alloc (Nat.le_refl _) _).alloc (by simp) _).alloc (by simp; omega) _).alloc (by simp; omega) _, by simp, ?_, ?_, ?_⟩
  · exact cell_of_row _ _ 0 _ _ (0, 0) ((Below.heap_alloc _ _ _ (by simp <;> omega)).trans ((Below.heap_alloc _ _ _ (by simp <;> omega)).trans ((Below.heap_alloc _ _ _ (by simp <;> omega)).trans (heap_alloc_at _ _ _ _ (by simp)))))
  · exact cell_of_row _ _ 0 _ _ (0, 0) ((Below.heap_alloc _ _ _ (by simp <;> omega)).trans ((Below.heap_alloc _ _ _ (by simp <;> omega)).trans (heap_alloc_at _ _ _ _ (by simp))))
  · exact cell_of_row _ _ 0 _ _ (0, 0) ((Below.heap_alloc _ _ _ (by simp <;> omega)).trans (heap_alloc_at _ _ _ _ (by simp)))

def right (x l h : Int) : Bool := decide (l ≤ x) && decide (x ≤ h)


set_option maxRecDepth 20000 in
set_option maxHeartbeats 400000 in
theorem inner_0 (c : Cfg) (p : Nat) (w : World) (l h : Int) (hc : Cap w p l h (fn 0)) :
    Calls Tryz.prog 76 #[.agg c.cells, .pointer (some ⟨p + 2, 0, none⟩), .pointer (some ⟨p, 0, none⟩), .pointer (some ⟨p + 1, 0, none⟩)] w fun e w' => e = .returned (.bool (right (c.at 0) l h)) ∧ Below w.heap.size w w' := by
  have ho := of_0 c
  obtain ⟨h0, c0, c1, c2⟩ := hc
  have c2 : w.cell? ⟨p + 2, 0, none⟩ = some (.func (.func 77) #[] #[]) := c2
  generalize c.at 0 = x at *
  have hp0 : p < w.heap.size := by omega
  have hp1 : p + 1 < w.heap.size := by omega
  unfold Cfg.cells at ho ⊢
  go_enter Tryz.func76, Tryz.ntmps76
  go_wp2_with fail
  refine (ho _).mono ?_
  rintro e w1 ⟨rfl, hb⟩
  have d0 : w1.cell? ⟨p, 0, none⟩ = some (.int .i64 l) := (hb.cell (p := ⟨p, 0, none⟩) (by simp; omega)).trans ((World.cell?_alloc_lt w _ _ hp0).trans c0)
  have d1 : w1.cell? ⟨p + 1, 0, none⟩ = some (.int .i64 h) := (hb.cell (p := ⟨p + 1, 0, none⟩) (by simp; omega)).trans ((World.cell?_alloc_lt w _ _ hp1).trans c1)
  have hB : Below w.heap.size w w1 := ((Below.refl _ _).alloc (Nat.le_refl _) _).trans (hb.mono (by simp))
  by_cases q1 : l ≤ x
  · go_wp2
    go_ret
    exact ⟨by simp [right, q1], hB⟩
  · go_wp2
    go_ret
    exact ⟨by simp [right]; omega, hB⟩

set_option maxRecDepth 20000 in
set_option maxHeartbeats 400000 in
theorem inner_1 (c : Cfg) (p : Nat) (w : World) (l h : Int) (hc : Cap w p l h (fn 1)) :
    Calls Tryz.prog 76 #[.agg c.cells, .pointer (some ⟨p + 2, 0, none⟩), .pointer (some ⟨p, 0, none⟩), .pointer (some ⟨p + 1, 0, none⟩)] w fun e w' => e = .returned (.bool (right (c.at 1) l h)) ∧ Below w.heap.size w w' := by
  have ho := of_1 c
  obtain ⟨h0, c0, c1, c2⟩ := hc
  have c2 : w.cell? ⟨p + 2, 0, none⟩ = some (.func (.func 78) #[] #[]) := c2
  generalize c.at 1 = x at *
  have hp0 : p < w.heap.size := by omega
  have hp1 : p + 1 < w.heap.size := by omega
  unfold Cfg.cells at ho ⊢
  go_enter Tryz.func76, Tryz.ntmps76
  go_wp2_with fail
  refine (ho _).mono ?_
  rintro e w1 ⟨rfl, hb⟩
  have d0 : w1.cell? ⟨p, 0, none⟩ = some (.int .i64 l) := (hb.cell (p := ⟨p, 0, none⟩) (by simp; omega)).trans ((World.cell?_alloc_lt w _ _ hp0).trans c0)
  have d1 : w1.cell? ⟨p + 1, 0, none⟩ = some (.int .i64 h) := (hb.cell (p := ⟨p + 1, 0, none⟩) (by simp; omega)).trans ((World.cell?_alloc_lt w _ _ hp1).trans c1)
  have hB : Below w.heap.size w w1 := ((Below.refl _ _).alloc (Nat.le_refl _) _).trans (hb.mono (by simp))
  by_cases q1 : l ≤ x
  · go_wp2
    go_ret
    exact ⟨by simp [right, q1], hB⟩
  · go_wp2
    go_ret
    exact ⟨by simp [right]; omega, hB⟩

set_option maxRecDepth 20000 in
set_option maxHeartbeats 400000 in
theorem inner_2 (c : Cfg) (p : Nat) (w : World) (l h : Int) (hc : Cap w p l h (fn 2)) :
    Calls Tryz.prog 76 #[.agg c.cells, .pointer (some ⟨p + 2, 0, none⟩), .pointer (some ⟨p, 0, none⟩), .pointer (some ⟨p + 1, 0, none⟩)] w fun e w' => e = .returned (.bool (right (c.at 2) l h)) ∧ Below w.heap.size w w' := by
  have ho := of_2 c
  obtain ⟨h0, c0, c1, c2⟩ := hc
  have c2 : w.cell? ⟨p + 2, 0, none⟩ = some (.func (.func 79) #[] #[]) := c2
  generalize c.at 2 = x at *
  have hp0 : p < w.heap.size := by omega
  have hp1 : p + 1 < w.heap.size := by omega
  unfold Cfg.cells at ho ⊢
  go_enter Tryz.func76, Tryz.ntmps76
  go_wp2_with fail
  refine (ho _).mono ?_
  rintro e w1 ⟨rfl, hb⟩
  have d0 : w1.cell? ⟨p, 0, none⟩ = some (.int .i64 l) := (hb.cell (p := ⟨p, 0, none⟩) (by simp; omega)).trans ((World.cell?_alloc_lt w _ _ hp0).trans c0)
  have d1 : w1.cell? ⟨p + 1, 0, none⟩ = some (.int .i64 h) := (hb.cell (p := ⟨p + 1, 0, none⟩) (by simp; omega)).trans ((World.cell?_alloc_lt w _ _ hp1).trans c1)
  have hB : Below w.heap.size w w1 := ((Below.refl _ _).alloc (Nat.le_refl _) _).trans (hb.mono (by simp))
  by_cases q1 : l ≤ x
  · go_wp2
    go_ret
    exact ⟨by simp [right, q1], hB⟩
  · go_wp2
    go_ret
    exact ⟨by simp [right]; omega, hB⟩

set_option maxRecDepth 20000 in
set_option maxHeartbeats 400000 in
theorem inner_3 (c : Cfg) (p : Nat) (w : World) (l h : Int) (hc : Cap w p l h (fn 3)) :
    Calls Tryz.prog 76 #[.agg c.cells, .pointer (some ⟨p + 2, 0, none⟩), .pointer (some ⟨p, 0, none⟩), .pointer (some ⟨p + 1, 0, none⟩)] w fun e w' => e = .returned (.bool (right (c.at 3) l h)) ∧ Below w.heap.size w w' := by
  have ho := of_3 c
  obtain ⟨h0, c0, c1, c2⟩ := hc
  have c2 : w.cell? ⟨p + 2, 0, none⟩ = some (.func (.func 80) #[] #[]) := c2
  generalize c.at 3 = x at *
  have hp0 : p < w.heap.size := by omega
  have hp1 : p + 1 < w.heap.size := by omega
  unfold Cfg.cells at ho ⊢
  go_enter Tryz.func76, Tryz.ntmps76
  go_wp2_with fail
  refine (ho _).mono ?_
  rintro e w1 ⟨rfl, hb⟩
  have d0 : w1.cell? ⟨p, 0, none⟩ = some (.int .i64 l) := (hb.cell (p := ⟨p, 0, none⟩) (by simp; omega)).trans ((World.cell?_alloc_lt w _ _ hp0).trans c0)
  have d1 : w1.cell? ⟨p + 1, 0, none⟩ = some (.int .i64 h) := (hb.cell (p := ⟨p + 1, 0, none⟩) (by simp; omega)).trans ((World.cell?_alloc_lt w _ _ hp1).trans c1)
  have hB : Below w.heap.size w w1 := ((Below.refl _ _).alloc (Nat.le_refl _) _).trans (hb.mono (by simp))
  by_cases q1 : l ≤ x
  · go_wp2
    go_ret
    exact ⟨by simp [right, q1], hB⟩
  · go_wp2
    go_ret
    exact ⟨by simp [right]; omega, hB⟩

set_option maxRecDepth 20000 in
set_option maxHeartbeats 400000 in
theorem inner_4 (c : Cfg) (p : Nat) (w : World) (l h : Int) (hc : Cap w p l h (fn 4)) :
    Calls Tryz.prog 76 #[.agg c.cells, .pointer (some ⟨p + 2, 0, none⟩), .pointer (some ⟨p, 0, none⟩), .pointer (some ⟨p + 1, 0, none⟩)] w fun e w' => e = .returned (.bool (right (c.at 4) l h)) ∧ Below w.heap.size w w' := by
  have ho := of_4 c
  obtain ⟨h0, c0, c1, c2⟩ := hc
  have c2 : w.cell? ⟨p + 2, 0, none⟩ = some (.func (.func 81) #[] #[]) := c2
  generalize c.at 4 = x at *
  have hp0 : p < w.heap.size := by omega
  have hp1 : p + 1 < w.heap.size := by omega
  unfold Cfg.cells at ho ⊢
  go_enter Tryz.func76, Tryz.ntmps76
  go_wp2_with fail
  refine (ho _).mono ?_
  rintro e w1 ⟨rfl, hb⟩
  have d0 : w1.cell? ⟨p, 0, none⟩ = some (.int .i64 l) := (hb.cell (p := ⟨p, 0, none⟩) (by simp; omega)).trans ((World.cell?_alloc_lt w _ _ hp0).trans c0)
  have d1 : w1.cell? ⟨p + 1, 0, none⟩ = some (.int .i64 h) := (hb.cell (p := ⟨p + 1, 0, none⟩) (by simp; omega)).trans ((World.cell?_alloc_lt w _ _ hp1).trans c1)
  have hB : Below w.heap.size w w1 := ((Below.refl _ _).alloc (Nat.le_refl _) _).trans (hb.mono (by simp))
  by_cases q1 : l ≤ x
  · go_wp2
    go_ret
    exact ⟨by simp [right, q1], hB⟩
  · go_wp2
    go_ret
    exact ⟨by simp [right]; omega, hB⟩

set_option maxRecDepth 20000 in
set_option maxHeartbeats 400000 in
theorem inner_5 (c : Cfg) (p : Nat) (w : World) (l h : Int) (hc : Cap w p l h (fn 5)) :
    Calls Tryz.prog 76 #[.agg c.cells, .pointer (some ⟨p + 2, 0, none⟩), .pointer (some ⟨p, 0, none⟩), .pointer (some ⟨p + 1, 0, none⟩)] w fun e w' => e = .returned (.bool (right (c.at 5) l h)) ∧ Below w.heap.size w w' := by
  have ho := of_5 c
  obtain ⟨h0, c0, c1, c2⟩ := hc
  have c2 : w.cell? ⟨p + 2, 0, none⟩ = some (.func (.func 82) #[] #[]) := c2
  generalize c.at 5 = x at *
  have hp0 : p < w.heap.size := by omega
  have hp1 : p + 1 < w.heap.size := by omega
  unfold Cfg.cells at ho ⊢
  go_enter Tryz.func76, Tryz.ntmps76
  go_wp2_with fail
  refine (ho _).mono ?_
  rintro e w1 ⟨rfl, hb⟩
  have d0 : w1.cell? ⟨p, 0, none⟩ = some (.int .i64 l) := (hb.cell (p := ⟨p, 0, none⟩) (by simp; omega)).trans ((World.cell?_alloc_lt w _ _ hp0).trans c0)
  have d1 : w1.cell? ⟨p + 1, 0, none⟩ = some (.int .i64 h) := (hb.cell (p := ⟨p + 1, 0, none⟩) (by simp; omega)).trans ((World.cell?_alloc_lt w _ _ hp1).trans c1)
  have hB : Below w.heap.size w w1 := ((Below.refl _ _).alloc (Nat.le_refl _) _).trans (hb.mono (by simp))
  by_cases q1 : l ≤ x
  · go_wp2
    go_ret
    exact ⟨by simp [right, q1], hB⟩
  · go_wp2
    go_ret
    exact ⟨by simp [right]; omega, hB⟩

set_option maxRecDepth 20000 in
set_option maxHeartbeats 400000 in
theorem inner_6 (c : Cfg) (p : Nat) (w : World) (l h : Int) (hc : Cap w p l h (fn 6)) :
    Calls Tryz.prog 76 #[.agg c.cells, .pointer (some ⟨p + 2, 0, none⟩), .pointer (some ⟨p, 0, none⟩), .pointer (some ⟨p + 1, 0, none⟩)] w fun e w' => e = .returned (.bool (right (c.at 6) l h)) ∧ Below w.heap.size w w' := by
  have ho := of_6 c
  obtain ⟨h0, c0, c1, c2⟩ := hc
  have c2 : w.cell? ⟨p + 2, 0, none⟩ = some (.func (.func 83) #[] #[]) := c2
  generalize c.at 6 = x at *
  have hp0 : p < w.heap.size := by omega
  have hp1 : p + 1 < w.heap.size := by omega
  unfold Cfg.cells at ho ⊢
  go_enter Tryz.func76, Tryz.ntmps76
  go_wp2_with fail
  refine (ho _).mono ?_
  rintro e w1 ⟨rfl, hb⟩
  have d0 : w1.cell? ⟨p, 0, none⟩ = some (.int .i64 l) := (hb.cell (p := ⟨p, 0, none⟩) (by simp; omega)).trans ((World.cell?_alloc_lt w _ _ hp0).trans c0)
  have d1 : w1.cell? ⟨p + 1, 0, none⟩ = some (.int .i64 h) := (hb.cell (p := ⟨p + 1, 0, none⟩) (by simp; omega)).trans ((World.cell?_alloc_lt w _ _ hp1).trans c1)
  have hB : Below w.heap.size w w1 := ((Below.refl _ _).alloc (Nat.le_refl _) _).trans (hb.mono (by simp))
  by_cases q1 : l ≤ x
  · go_wp2
    go_ret
    exact ⟨by simp [right, q1], hB⟩
  · go_wp2
    go_ret
    exact ⟨by simp [right]; omega, hB⟩

set_option maxRecDepth 20000 in
set_option maxHeartbeats 400000 in
theorem inner_7 (c : Cfg) (p : Nat) (w : World) (l h : Int) (hc : Cap w p l h (fn 7)) :
    Calls Tryz.prog 76 #[.agg c.cells, .pointer (some ⟨p + 2, 0, none⟩), .pointer (some ⟨p, 0, none⟩), .pointer (some ⟨p + 1, 0, none⟩)] w fun e w' => e = .returned (.bool (right (c.at 7) l h)) ∧ Below w.heap.size w w' := by
  have ho := of_7 c
  obtain ⟨h0, c0, c1, c2⟩ := hc
  have c2 : w.cell? ⟨p + 2, 0, none⟩ = some (.func (.func 84) #[] #[]) := c2
  generalize c.at 7 = x at *
  have hp0 : p < w.heap.size := by omega
  have hp1 : p + 1 < w.heap.size := by omega
  unfold Cfg.cells at ho ⊢
  go_enter Tryz.func76, Tryz.ntmps76
  go_wp2_with fail
  refine (ho _).mono ?_
  rintro e w1 ⟨rfl, hb⟩
  have d0 : w1.cell? ⟨p, 0, none⟩ = some (.int .i64 l) := (hb.cell (p := ⟨p, 0, none⟩) (by simp; omega)).trans ((World.cell?_alloc_lt w _ _ hp0).trans c0)
  have d1 : w1.cell? ⟨p + 1, 0, none⟩ = some (.int .i64 h) := (hb.cell (p := ⟨p + 1, 0, none⟩) (by simp; omega)).trans ((World.cell?_alloc_lt w _ _ hp1).trans c1)
  have hB : Below w.heap.size w w1 := ((Below.refl _ _).alloc (Nat.le_refl _) _).trans (hb.mono (by simp))
  by_cases q1 : l ≤ x
  · go_wp2
    go_ret
    exact ⟨by simp [right, q1], hB⟩
  · go_wp2
    go_ret
    exact ⟨by simp [right]; omega, hB⟩

set_option maxRecDepth 20000 in
set_option maxHeartbeats 400000 in
theorem inner_8 (c : Cfg) (p : Nat) (w : World) (l h : Int) (hc : Cap w p l h (fn 8)) :
    Calls Tryz.prog 76 #[.agg c.cells, .pointer (some ⟨p + 2, 0, none⟩), .pointer (some ⟨p, 0, none⟩), .pointer (some ⟨p + 1, 0, none⟩)] w fun e w' => e = .returned (.bool (right (c.at 8) l h)) ∧ Below w.heap.size w w' := by
  have ho := of_8 c
  obtain ⟨h0, c0, c1, c2⟩ := hc
  have c2 : w.cell? ⟨p + 2, 0, none⟩ = some (.func (.func 85) #[] #[]) := c2
  generalize c.at 8 = x at *
  have hp0 : p < w.heap.size := by omega
  have hp1 : p + 1 < w.heap.size := by omega
  unfold Cfg.cells at ho ⊢
  go_enter Tryz.func76, Tryz.ntmps76
  go_wp2_with fail
  refine (ho _).mono ?_
  rintro e w1 ⟨rfl, hb⟩
  have d0 : w1.cell? ⟨p, 0, none⟩ = some (.int .i64 l) := (hb.cell (p := ⟨p, 0, none⟩) (by simp; omega)).trans ((World.cell?_alloc_lt w _ _ hp0).trans c0)
  have d1 : w1.cell? ⟨p + 1, 0, none⟩ = some (.int .i64 h) := (hb.cell (p := ⟨p + 1, 0, none⟩) (by simp; omega)).trans ((World.cell?_alloc_lt w _ _ hp1).trans c1)
  have hB : Below w.heap.size w w1 := ((Below.refl _ _).alloc (Nat.le_refl _) _).trans (hb.mono (by simp))
  by_cases q1 : l ≤ x
  · go_wp2
    go_ret
    exact ⟨by simp [right, q1], hB⟩
  · go_wp2
    go_ret
    exact ⟨by simp [right]; omega, hB⟩

set_option maxRecDepth 20000 in
set_option maxHeartbeats 400000 in
theorem inner_9 (c : Cfg) (p : Nat) (w : World) (l h : Int) (hc : Cap w p l h (fn 9)) :
    Calls Tryz.prog 76 #[.agg c.cells, .pointer (some ⟨p + 2, 0, none⟩), .pointer (some ⟨p, 0, none⟩), .pointer (some ⟨p + 1, 0, none⟩)] w fun e w' => e = .returned (.bool (right (c.at 9) l h)) ∧ Below w.heap.size w w' := by
  have ho := of_9 c
  obtain ⟨h0, c0, c1, c2⟩ := hc
  have c2 : w.cell? ⟨p + 2, 0, none⟩ = some (.func (.func 86) #[] #[]) := c2
  generalize c.at 9 = x at *
  have hp0 : p < w.heap.size := by omega
  have hp1 : p + 1 < w.heap.size := by omega
  unfold Cfg.cells at ho ⊢
  go_enter Tryz.func76, Tryz.ntmps76
  go_wp2_with fail
  refine (ho _).mono ?_
  rintro e w1 ⟨rfl, hb⟩
  have d0 : w1.cell? ⟨p, 0, none⟩ = some (.int .i64 l) := (hb.cell (p := ⟨p, 0, none⟩) (by simp; omega)).trans ((World.cell?_alloc_lt w _ _ hp0).trans c0)
  have d1 : w1.cell? ⟨p + 1, 0, none⟩ = some (.int .i64 h) := (hb.cell (p := ⟨p + 1, 0, none⟩) (by simp; omega)).trans ((World.cell?_alloc_lt w _ _ hp1).trans c1)
  have hB : Below w.heap.size w w1 := ((Below.refl _ _).alloc (Nat.le_refl _) _).trans (hb.mono (by simp))
  by_cases q1 : l ≤ x
  · go_wp2
    go_ret
    exact ⟨by simp [right, q1], hB⟩
  · go_wp2
    go_ret
    exact ⟨by simp [right]; omega, hB⟩

set_option maxRecDepth 20000 in
set_option maxHeartbeats 400000 in
theorem inner_10 (c : Cfg) (p : Nat) (w : World) (l h : Int) (hc : Cap w p l h (fn 10)) :
    Calls Tryz.prog 76 #[.agg c.cells, .pointer (some ⟨p + 2, 0, none⟩), .pointer (some ⟨p, 0, none⟩), .pointer (some ⟨p + 1, 0, none⟩)] w fun e w' => e = .returned (.bool (right (c.at 10) l h)) ∧ Below w.heap.size w w' := by
  have ho := of_10 c
  obtain ⟨h0, c0, c1, c2⟩ := hc
  have c2 : w.cell? ⟨p + 2, 0, none⟩ = some (.func (.func 87) #[] #[]) := c2
  generalize c.at 10 = x at *
  have hp0 : p < w.heap.size := by omega
  have hp1 : p + 1 < w.heap.size := by omega
  unfold Cfg.cells at ho ⊢
  go_enter Tryz.func76, Tryz.ntmps76
  go_wp2_with fail
  refine (ho _).mono ?_
  rintro e w1 ⟨rfl, hb⟩
  have d0 : w1.cell? ⟨p, 0, none⟩ = some (.int .i64 l) := (hb.cell (p := ⟨p, 0, none⟩) (by simp; omega)).trans ((World.cell?_alloc_lt w _ _ hp0).trans c0)
  have d1 : w1.cell? ⟨p + 1, 0, none⟩ = some (.int .i64 h) := (hb.cell (p := ⟨p + 1, 0, none⟩) (by simp; omega)).trans ((World.cell?_alloc_lt w _ _ hp1).trans c1)
  have hB : Below w.heap.size w w1 := ((Below.refl _ _).alloc (Nat.le_refl _) _).trans (hb.mono (by simp))
  by_cases q1 : l ≤ x
  · go_wp2
    go_ret
    exact ⟨by simp [right, q1], hB⟩
  · go_wp2
    go_ret
    exact ⟨by simp [right]; omega, hB⟩

theorem inner_any (c : Cfg) (k : Nat) (hk : k < 11) (p : Nat) (w : World) (l h : Int) (hc : Cap w p l h (fn k)) :
    Calls Tryz.prog 76 #[.agg c.cells, .pointer (some ⟨p + 2, 0, none⟩), .pointer (some ⟨p, 0, none⟩), .pointer (some ⟨p + 1, 0, none⟩)] w fun e w' => e = .returned (.bool (right (c.at k) l h)) ∧ Below w.heap.size w w' := by
  match k, hk, hc with
  | 0, _, hc => exact inner_0 c p w l h hc
  | 1, _, hc => exact inner_1 c p w l h hc
  | 2, _, hc => exact inner_2 c p w l h hc
  | 3, _, hc => exact inner_3 c p w l h hc
  | 4, _, hc => exact inner_4 c p w l h hc
  | 5, _, hc => exact inner_5 c p w l h hc
  | 6, _, hc => exact inner_6 c p w l h hc
  | 7, _, hc => exact inner_7 c p w l h hc
  | 8, _, hc => exact inner_8 c p w l h hc
  | 9, _, hc => exact inner_9 c p w l h hc
  | 10, _, hc => exact inner_10 c p w l h hc
end Go.Proofs.YtpkkomifenlkaaaGreat.Conf
