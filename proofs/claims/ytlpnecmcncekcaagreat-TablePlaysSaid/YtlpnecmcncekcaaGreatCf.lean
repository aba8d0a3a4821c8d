import Derived.Test.YtlpnecmcncekcaaGreatCommon
import Derived.Laws.EntriesVeiled
/- conf.Check: the first field that isn't right. -/
namespace Go.Proofs.YtlpnecmcncekcaaGreat.Conf
open Go.RowKit

/-- A config's fields. -/
structure Cfg where
  A : Option Addr
  n : Nat
  cap : Nat
  f1 : Int
  f2 : Int
  f3 : Int
  f4 : Int
  f5 : Int
  f6 : Int
  f7 : Int
  f8 : Int
  f9 : Int
  f10 : Int
  f11 : Int

def Cfg.cells (c : Cfg) : Array Value := #[.slice c.A c.n c.cap, .int .i64 c.f1, .int .i64 c.f2, .int .i64 c.f3, .int .i64 c.f4, .int .i64 c.f5, .int .i64 c.f6, .int .i64 c.f7, .int .i64 c.f8, .int .i64 c.f9, .int .i64 c.f10, .int .u64 c.f11]
def Cfg.at (c : Cfg) : Nat → Int
  | 0 => (c.n : Int)
  | 1 => c.f1
  | 2 => c.f2
  | 3 => c.f3
  | 4 => c.f4
  | 5 => c.f5
  | 6 => c.f6
  | 7 => c.f7
  | 8 => c.f8
  | 9 => c.f9
  | 10 => c.f10
  | _ => 0
def word : Nat → ByteArray
  | 0 => ⟨#[99, 104, 97, 110, 110, 101, 108, 115]⟩
  | 1 => ⟨#[97, 99, 99, 111, 117, 110, 116, 115]⟩
  | 2 => ⟨#[115, 104, 97, 114, 100, 115]⟩
  | 3 => ⟨#[114, 111, 111, 109]⟩
  | 4 => ⟨#[112, 111, 111, 108]⟩
  | 5 => ⟨#[98, 108, 111, 99, 107]⟩
  | 6 => ⟨#[98, 97, 116, 99, 104]⟩
  | 7 => ⟨#[116, 120, 115]⟩
  | 8 => ⟨#[115, 99, 97, 110]⟩
  | 9 => ⟨#[113, 117, 101, 117, 101]⟩
  | 10 => ⟨#[119, 97, 105, 116]⟩
  | _ => ⟨#[]⟩
def lo : Nat → Int | 10 => 0 | _ => 1
def hi : Nat → Int
  | 0 => 4
  | 1 => 4
  | 2 => 8
  | 3 => 64
  | 4 => 32
  | 5 => 16
  | 6 => 8
  | 7 => 4
  | 8 => 8
  | 9 => 16
  | 10 => 8
  | _ => 0
def fn : Nat → Nat
  | 0 => 67
  | 1 => 68
  | 2 => 69
  | 3 => 70
  | 4 => 71
  | 5 => 72
  | 6 => 73
  | 7 => 74
  | 8 => 75
  | 9 => 76
  | 10 => 77
  | _ => 0

set_option maxHeartbeats 400000 in
theorem of_0 (c : Cfg) (w : World) : Calls Tryz.prog 67 #[.agg c.cells] w fun e w' => e = .returned (.int .i64 (c.at 0)) ∧ Below w.heap.size w w' := by
  unfold Cfg.cells
  go_enter Tryz.func67, Tryz.ntmps67
  go_wp2
  go_ret
  exact ⟨rfl, (Below.refl _ _).alloc (Nat.le_refl _) _⟩

set_option maxHeartbeats 400000 in
theorem of_1 (c : Cfg) (w : World) : Calls Tryz.prog 68 #[.agg c.cells] w fun e w' => e = .returned (.int .i64 (c.at 1)) ∧ Below w.heap.size w w' := by
  unfold Cfg.cells
  go_enter Tryz.func68, Tryz.ntmps68
  go_wp2
  go_ret
  exact ⟨rfl, (Below.refl _ _).alloc (Nat.le_refl _) _⟩

set_option maxHeartbeats 400000 in
theorem of_2 (c : Cfg) (w : World) : Calls Tryz.prog 69 #[.agg c.cells] w fun e w' => e = .returned (.int .i64 (c.at 2)) ∧ Below w.heap.size w w' := by
  unfold Cfg.cells
  go_enter Tryz.func69, Tryz.ntmps69
  go_wp2
  go_ret
  exact ⟨rfl, (Below.refl _ _).alloc (Nat.le_refl _) _⟩

set_option maxHeartbeats 400000 in
theorem of_3 (c : Cfg) (w : World) : Calls Tryz.prog 70 #[.agg c.cells] w fun e w' => e = .returned (.int .i64 (c.at 3)) ∧ Below w.heap.size w w' := by
  unfold Cfg.cells
  go_enter Tryz.func70, Tryz.ntmps70
  go_wp2
  go_ret
  exact ⟨rfl, (Below.refl _ _).alloc (Nat.le_refl _) _⟩

set_option maxHeartbeats 400000 in
theorem of_4 (c : Cfg) (w : World) : Calls Tryz.prog 71 #[.agg c.cells] w fun e w' => e = .returned (.int .i64 (c.at 4)) ∧ Below w.heap.size w w' := by
  unfold Cfg.cells
  go_enter Tryz.func71, Tryz.ntmps71
  go_wp2
  go_ret
  exact ⟨rfl, (Below.refl _ _).alloc (Nat.le_refl _) _⟩

set_option maxHeartbeats 400000 in
theorem of_5 (c : Cfg) (w : World) : Calls Tryz.prog 72 #[.agg c.cells] w fun e w' => e = .returned (.int .i64 (c.at 5)) ∧ Below w.heap.size w w' := by
  unfold Cfg.cells
  go_enter Tryz.func72, Tryz.ntmps72
  go_wp2
  go_ret
  exact ⟨rfl, (Below.refl _ _).alloc (Nat.le_refl _) _⟩

set_option maxHeartbeats 400000 in
theorem of_6 (c : Cfg) (w : World) : Calls Tryz.prog 73 #[.agg c.cells] w fun e w' => e = .returned (.int .i64 (c.at 6)) ∧ Below w.heap.size w w' := by
  unfold Cfg.cells
  go_enter Tryz.func73, Tryz.ntmps73
  go_wp2
  go_ret
  exact ⟨rfl, (Below.refl _ _).alloc (Nat.le_refl _) _⟩

set_option maxHeartbeats 400000 in
theorem of_7 (c : Cfg) (w : World) : Calls Tryz.prog 74 #[.agg c.cells] w fun e w' => e = .returned (.int .i64 (c.at 7)) ∧ Below w.heap.size w w' := by
  unfold Cfg.cells
  go_enter Tryz.func74, Tryz.ntmps74
  go_wp2
  go_ret
  exact ⟨rfl, (Below.refl _ _).alloc (Nat.le_refl _) _⟩

set_option maxHeartbeats 400000 in
theorem of_8 (c : Cfg) (w : World) : Calls Tryz.prog 75 #[.agg c.cells] w fun e w' => e = .returned (.int .i64 (c.at 8)) ∧ Below w.heap.size w w' := by
  unfold Cfg.cells
  go_enter Tryz.func75, Tryz.ntmps75
  go_wp2
  go_ret
  exact ⟨rfl, (Below.refl _ _).alloc (Nat.le_refl _) _⟩

set_option maxHeartbeats 400000 in
theorem of_9 (c : Cfg) (w : World) : Calls Tryz.prog 76 #[.agg c.cells] w fun e w' => e = .returned (.int .i64 (c.at 9)) ∧ Below w.heap.size w w' := by
  unfold Cfg.cells
  go_enter Tryz.func76, Tryz.ntmps76
  go_wp2
  go_ret
  exact ⟨rfl, (Below.refl _ _).alloc (Nat.le_refl _) _⟩

set_option maxHeartbeats 400000 in
theorem of_10 (c : Cfg) (w : World) : Calls Tryz.prog 77 #[.agg c.cells] w fun e w' => e = .returned (.int .i64 (c.at 10)) ∧ Below w.heap.size w w' := by
  unfold Cfg.cells
  go_enter Tryz.func77, Tryz.ntmps77
  go_wp2
  go_ret
  exact ⟨rfl, (Below.refl _ _).alloc (Nat.le_refl _) _⟩

theorem of_any (c : Cfg) (k : Nat) (hk : k < 11) (w : World) : Calls Tryz.prog (fn k) #[.agg c.cells] w fun e w' => e = .returned (.int .i64 (c.at k)) ∧ Below w.heap.size w w' := by
  match k, hk with
  | 0, _ => exact of_0 c w
  | 1, _ => exact of_1 c w
  | 2, _ => exact of_2 c w
  | 3, _ => exact of_3 c w
  | 4, _ => exact of_4 c w
  | 5, _ => exact of_5 c w
  | 6, _ => exact of_6 c w
  | 7, _ => exact of_7 c w
  | 8, _ => exact of_8 c w
  | 9, _ => exact of_9 c w
  | 10, _ => exact of_10 c w

/-- What a field's closure holds on to. -/
def Cap (w : World) (p : Nat) (l h : Int) (F : Nat) : Prop :=
  p + 2 < w.heap.size ∧ w.cell? ⟨p, 0, none⟩ = some (.int .i64 l) ∧ w.cell? ⟨p + 1, 0, none⟩ = some (.int .i64 h) ∧ w.cell? ⟨p + 2, 0, none⟩ = some (.func (.func F) #[] #[])

theorem Cap.below {w w' : World} {p F : Nat} {l h : Int} (H : Cap w p l h F) (hb : Below w.heap.size w w') : Cap w' p l h F := by
  obtain ⟨h0, h1, h2, h3⟩ := H
  have := hb.size
  exact ⟨by omega, (hb.cell (p := ⟨p, 0, none⟩) (by show p < _; omega)).trans h1, (hb.cell (p := ⟨p + 1, 0, none⟩) (by show p + 1 < _; omega)).trans h2, (hb.cell (p := ⟨p + 2, 0, none⟩) h0).trans h3⟩

def clo (p : Nat) : Value := .func (.func 66) #[] #[.pointer (some ⟨p + 2, 0, none⟩), .pointer (some ⟨p, 0, none⟩), .pointer (some ⟨p + 1, 0, none⟩)]

theorem heap_alloc_at (w : World) (cs : Array Value) (t : TypeId) (k : Nat) (h : k = w.heap.size) : (w.alloc (.cells cs t)).heap[k]? = some (.cells cs t (0, 0)) := h ▸ heap_alloc_new w _

set_option maxHeartbeats 400000 in
theorem one_any (s : ByteArray) (l h : Int) (F : Nat) (w : World) :
    Calls Tryz.prog 65 #[.string s, .int .i64 l, .int .i64 h, .func (.func F) #[] #[]] w fun e w' => e = .returned (.agg #[.string s, clo w.heap.size]) ∧ Below w.heap.size w w' ∧ Cap w' w.heap.size l h F := by
  have hmf : ∀ (fn : Fn) (first cap : Array Value) (w : World), (Instr.makeFunc fn first cap).run Tryz.prog w = .ok (.func fn first cap) w := fun _ _ _ _ => rfl
  go_enter Tryz.func65, Tryz.ntmps65
  go_wp2
  refine bodyPost_ret (v := .agg #[.string s, clo w.heap.size]) (by simp [results, Tryz.results65, go_sem, clo]) rfl ⟨rfl, ?_⟩
  refine ⟨((((Below.refl _ _).alloc (Nat.le_refl _) _).alloc (by simp) _).alloc (by simp; omega) _).alloc (by simp; omega) _, by simp, ?_, ?_, ?_⟩
  · exact cell_of_row _ _ 0 _ _ (0, 0) ((Below.heap_alloc _ _ _ (by simp <;> omega)).trans ((Below.heap_alloc _ _ _ (by simp <;> omega)).trans ((Below.heap_alloc _ _ _ (by simp <;> omega)).trans (heap_alloc_at _ _ _ _ (by simp)))))
  · exact cell_of_row _ _ 0 _ _ (0, 0) ((Below.heap_alloc _ _ _ (by simp <;> omega)).trans ((Below.heap_alloc _ _ _ (by simp <;> omega)).trans (heap_alloc_at _ _ _ _ (by simp))))
  · exact cell_of_row _ _ 0 _ _ (0, 0) ((Below.heap_alloc _ _ _ (by simp <;> omega)).trans (heap_alloc_at _ _ _ _ (by simp)))

def right (x l h : Int) : Bool := decide (l ≤ x) && decide (x ≤ h)


set_option maxRecDepth 20000 in
set_option maxHeartbeats 400000 in
theorem inner_0 (c : Cfg) (p : Nat) (w : World) (l h : Int) (hc : Cap w p l h (fn 0)) :
    Calls Tryz.prog 66 #[.agg c.cells, .pointer (some ⟨p + 2, 0, none⟩), .pointer (some ⟨p, 0, none⟩), .pointer (some ⟨p + 1, 0, none⟩)] w fun e w' => e = .returned (.bool (right (c.at 0) l h)) ∧ Below w.heap.size w w' := by
  have ho := of_0 c
  obtain ⟨h0, c0, c1, c2⟩ := hc
  have c2 : w.cell? ⟨p + 2, 0, none⟩ = some (.func (.func 67) #[] #[]) := c2
  generalize c.at 0 = x at *
  have hp0 : p < w.heap.size := by omega
  have hp1 : p + 1 < w.heap.size := by omega
  unfold Cfg.cells at ho ⊢
  go_enter Tryz.func66, Tryz.ntmps66
  go_wp2_with fail
  refine (ho _).mono ?_
  rintro e w1 ⟨rfl, hb⟩
  have d0 : w1.cell? ⟨p, 0, none⟩ = some (.int .i64 l) := (hb.cell (p := ⟨p, 0, none⟩) (by simp; omega)).trans ((World.cell?_alloc_lt w _ _ hp0).trans c0)
  have d1 : w1.cell? ⟨p + 1, 0, none⟩ = some (.int .i64 h) := (hb.cell (p := ⟨p + 1, 0, none⟩) (by simp; omega)).trans ((World.cell?_alloc_lt w _ _ hp1).trans c1)
  have hB : Below w.heap.size w w1 := ((Below.refl _ _).alloc (Nat.le_refl _) _).trans (hb.mono (by simp))
  by_cases q1 : l ≤ x
  · go_wp2
    go_ret
    exact ⟨by simp [right, q1], hB⟩
  · go_wp2
    go_ret
    exact ⟨by simp [right]; omega, hB⟩

set_option maxRecDepth 20000 in
set_option maxHeartbeats 400000 in
theorem inner_1 (c : Cfg) (p : Nat) (w : World) (l h : Int) (hc : Cap w p l h (fn 1)) :
    Calls Tryz.prog 66 #[.agg c.cells, .pointer (some ⟨p + 2, 0, none⟩), .pointer (some ⟨p, 0, none⟩), .pointer (some ⟨p + 1, 0, none⟩)] w fun e w' => e = .returned (.bool (right (c.at 1) l h)) ∧ Below w.heap.size w w' := by
  have ho := of_1 c
  obtain ⟨h0, c0, c1, c2⟩ := hc
  have c2 : w.cell? ⟨p + 2, 0, none⟩ = some (.func (.func 68) #[] #[]) := c2
  generalize c.at 1 = x at *
  have hp0 : p < w.heap.size := by omega
  have hp1 : p + 1 < w.heap.size := by omega
  unfold Cfg.cells at ho ⊢
  go_enter Tryz.func66, Tryz.ntmps66
  go_wp2_with fail
  refine (ho _).mono ?_
  rintro e w1 ⟨rfl, hb⟩
  have d0 : w1.cell? ⟨p, 0, none⟩ = some (.int .i64 l) := (hb.cell (p := ⟨p, 0, none⟩) (by simp; omega)).trans ((World.cell?_alloc_lt w _ _ hp0).trans c0)
  have d1 : w1.cell? ⟨p + 1, 0, none⟩ = some (.int .i64 h) := (hb.cell (p := ⟨p + 1, 0, none⟩) (by simp; omega)).trans ((World.cell?_alloc_lt w _ _ hp1).trans c1)
  have hB : Below w.heap.size w w1 := ((Below.refl _ _).alloc (Nat.le_refl _) _).trans (hb.mono (by simp))
  by_cases q1 : l ≤ x
  · go_wp2
    go_ret
    exact ⟨by simp [right, q1], hB⟩
  · go_wp2
    go_ret
    exact ⟨by simp [right]; omega, hB⟩

set_option maxRecDepth 20000 in
set_option maxHeartbeats 400000 in
theorem inner_2 (c : Cfg) (p : Nat) (w : World) (l h : Int) (hc : Cap w p l h (fn 2)) :
    Calls Tryz.prog 66 #[.agg c.cells, .pointer (some ⟨p + 2, 0, none⟩), .pointer (some ⟨p, 0, none⟩), .pointer (some ⟨p + 1, 0, none⟩)] w fun e w' => e = .returned (.bool (right (c.at 2) l h)) ∧ Below w.heap.size w w' := by
  have ho := of_2 c
  obtain ⟨h0, c0, c1, c2⟩ := hc
  have c2 : w.cell? ⟨p + 2, 0, none⟩ = some (.func (.func 69) #[] #[]) := c2
  generalize c.at 2 = x at *
  have hp0 : p < w.heap.size := by omega
  have hp1 : p + 1 < w.heap.size := by omega
  unfold Cfg.cells at ho ⊢
  go_enter Tryz.func66, Tryz.ntmps66
  go_wp2_with fail
  refine (ho _).mono ?_
  rintro e w1 ⟨rfl, hb⟩
  have d0 : w1.cell? ⟨p, 0, none⟩ = some (.int .i64 l) := (hb.cell (p := ⟨p, 0, none⟩) (by simp; omega)).trans ((World.cell?_alloc_lt w _ _ hp0).trans c0)
  have d1 : w1.cell? ⟨p + 1, 0, none⟩ = some (.int .i64 h) := (hb.cell (p := ⟨p + 1, 0, none⟩) (by simp; omega)).trans ((World.cell?_alloc_lt w _ _ hp1).trans c1)
  have hB : Below w.heap.size w w1 := ((Below.refl _ _).alloc (Nat.le_refl _) _).trans (hb.mono (by simp))
  by_cases q1 : l ≤ x
  · go_wp2
    go_ret
    exact ⟨by simp [right, q1], hB⟩
  · go_wp2
    go_ret
    exact ⟨by simp [right]; omega, hB⟩

set_option maxRecDepth 20000 in
set_option maxHeartbeats 400000 in
theorem inner_3 (c : Cfg) (p : Nat) (w : World) (l h : Int) (hc : Cap w p l h (fn 3)) :
    Calls Tryz.prog 66 #[.agg c.cells, .pointer (some ⟨p + 2, 0, none⟩), .pointer (some ⟨p, 0, none⟩), .pointer (some ⟨p + 1, 0, none⟩)] w fun e w' => e = .returned (.bool (right (c.at 3) l h)) ∧ Below w.heap.size w w' := by
  have ho := of_3 c
  obtain ⟨h0, c0, c1, c2⟩ := hc
  have c2 : w.cell? ⟨p + 2, 0, none⟩ = some (.func (.func 70) #[] #[]) := c2
  generalize c.at 3 = x at *
  have hp0 : p < w.heap.size := by omega
  have hp1 : p + 1 < w.heap.size := by omega
  unfold Cfg.cells at ho ⊢
  go_enter Tryz.func66, Tryz.ntmps66
  go_wp2_with fail
  refine (ho _).mono ?_
  rintro e w1 ⟨rfl, hb⟩
  have d0 : w1.cell? ⟨p, 0, none⟩ = some (.int .i64 l) := (hb.cell (p := ⟨p, 0, none⟩) (by simp; omega)).trans ((World.cell?_alloc_lt w _ _ hp0).trans c0)
  have d1 : w1.cell? ⟨p + 1, 0, none⟩ = some (.int .i64 h) := (hb.cell (p := ⟨p + 1, 0, none⟩) (by simp; omega)).trans ((World.cell?_alloc_lt w _ _ hp1).trans c1)
  have hB : Below w.heap.size w w1 := ((Below.refl _ _).alloc (Nat.le_refl _) _).trans (hb.mono (by simp))
  by_cases q1 : l ≤ x
  · go_wp2
    go_ret
    exact ⟨by simp [right, q1], hB⟩
  · go_wp2
    go_ret
    exact ⟨by simp [right]; omega, hB⟩

set_option maxRecDepth 20000 in
set_option maxHeartbeats 400000 in
theorem inner_4 (c : Cfg) (p : Nat) (w : World) (l h : Int) (hc : Cap w p l h (fn 4)) :
    Calls Tryz.prog 66 #[.agg c.cells, .pointer (some ⟨p + 2, 0, none⟩), .pointer (some ⟨p, 0, none⟩), .pointer (some ⟨p + 1, 0, none⟩)] w fun e w' => e = .returned (.bool (right (c.at 4) l h)) ∧ Below w.heap.size w w' := by
  have ho := of_4 c
  obtain ⟨h0, c0, c1, c2⟩ := hc
  have c2 : w.cell? ⟨p + 2, 0, none⟩ = some (.func (.func 71) #[] #[]) := c2
  generalize c.at 4 = x at *
  have hp0 : p < w.heap.size := by omega
  have hp1 : p + 1 < w.heap.size := by omega
  unfold Cfg.cells at ho ⊢
  go_enter Tryz.func66, Tryz.ntmps66
  go_wp2_with fail
  refine (ho _).mono ?_
  rintro e w1 ⟨rfl, hb⟩
  have d0 : w1.cell? ⟨p, 0, none⟩ = some (.int .i64 l) := (hb.cell (p := ⟨p, 0, none⟩) (by simp; omega)).trans ((World.cell?_alloc_lt w _ _ hp0).trans c0)
  have d1 : w1.cell? ⟨p + 1, 0, none⟩ = some (.int .i64 h) := (hb.cell (p := ⟨p + 1, 0, none⟩) (by simp; omega)).trans ((World.cell?_alloc_lt w _ _ hp1).trans c1)
  have hB : Below w.heap.size w w1 := ((Below.refl _ _).alloc (Nat.le_refl _) _).trans (hb.mono (by simp))
  by_cases q1 : l ≤ x
  · go_wp2
    go_ret
    exact ⟨by simp [right, q1], hB⟩
  · go_wp2
    go_ret
    exact ⟨by simp [right]; omega, hB⟩

set_option maxRecDepth 20000 in
set_option maxHeartbeats 400000 in
theorem inner_5 (c : Cfg) (p : Nat) (w : World) (l h : Int) (hc : Cap w p l h (fn 5)) :
    Calls Tryz.prog 66 #[.agg c.cells, .pointer (some ⟨p + 2, 0, none⟩), .pointer (some ⟨p, 0, none⟩), .pointer (some ⟨p + 1, 0, none⟩)] w fun e w' => e = .returned (.bool (right (c.at 5) l h)) ∧ Below w.heap.size w w' := by
  have ho := of_5 c
  obtain ⟨h0, c0, c1, c2⟩ := hc
  have c2 : w.cell? ⟨p + 2, 0, none⟩ = some (.func (.func 72) #[] #[]) := c2
  generalize c.at 5 = x at *
  have hp0 : p < w.heap.size := by omega
  have hp1 : p + 1 < w.heap.size := by omega
  unfold Cfg.cells at ho ⊢
  go_enter Tryz.func66, Tryz.ntmps66
  go_wp2_with fail
  refine (ho _).mono ?_
  rintro e w1 ⟨rfl, hb⟩
  have d0 : w1.cell? ⟨p, 0, none⟩ = some (.int .i64 l) := (hb.cell (p := ⟨p, 0, none⟩) (by simp; omega)).trans ((World.cell?_alloc_lt w _ _ hp0).trans c0)
  have d1 : w1.cell? ⟨p + 1, 0, none⟩ = some (.int .i64 h) := (hb.cell (p := ⟨p + 1, 0, none⟩) (by simp; omega)).trans ((World.cell?_alloc_lt w _ _ hp1).trans c1)
  have hB : Below w.heap.size w w1 := ((Below.refl _ _).alloc (Nat.le_refl _) _).trans (hb.mono (by simp))
  by_cases q1 : l ≤ x
  · go_wp2
    go_ret
    exact ⟨by simp [right, q1], hB⟩
  · go_wp2
    go_ret
    exact ⟨by simp [right]; omega, hB⟩

set_option maxRecDepth 20000 in
set_option maxHeartbeats 400000 in
theorem inner_6 (c : Cfg) (p : Nat) (w : World) (l h : Int) (hc : Cap w p l h (fn 6)) :
    Calls Tryz.prog 66 #[.agg c.cells, .pointer (some ⟨p + 2, 0, none⟩), .pointer (some ⟨p, 0, none⟩), .pointer (some ⟨p + 1, 0, none⟩)] w fun e w' => e = .returned (.bool (right (c.at 6) l h)) ∧ Below w.heap.size w w' := by
  have ho := of_6 c
  obtain ⟨h0, c0, c1, c2⟩ := hc
  have c2 : w.cell? ⟨p + 2, 0, none⟩ = some (.func (.func 73) #[] #[]) := c2
  generalize c.at 6 = x at *
  have hp0 : p < w.heap.size := by omega
  have hp1 : p + 1 < w.heap.size := by omega
  unfold Cfg.cells at ho ⊢
  go_enter Tryz.func66, Tryz.ntmps66
  go_wp2_with fail
  refine (ho _).mono ?_
  rintro e w1 ⟨rfl, hb⟩
  have d0 : w1.cell? ⟨p, 0, none⟩ = some (.int .i64 l) := (hb.cell (p := ⟨p, 0, none⟩) (by simp; omega)).trans ((World.cell?_alloc_lt w _ _ hp0).trans c0)
  have d1 : w1.cell? ⟨p + 1, 0, none⟩ = some (.int .i64 h) := (hb.cell (p := ⟨p + 1, 0, none⟩) (by simp; omega)).trans ((World.cell?_alloc_lt w _ _ hp1).trans c1)
  have hB : Below w.heap.size w w1 := ((Below.refl _ _).alloc (Nat.le_refl _) _).trans (hb.mono (by simp))
  by_cases q1 : l ≤ x
  · go_wp2
    go_ret
    exact ⟨by simp [right, q1], hB⟩
  · go_wp2
    go_ret
    exact ⟨by simp [right]; omega, hB⟩

set_option maxRecDepth 20000 in
set_option maxHeartbeats 400000 in
theorem inner_7 (c : Cfg) (p : Nat) (w : World) (l h : Int) (hc : Cap w p l h (fn 7)) :
    Calls Tryz.prog 66 #[.agg c.cells, .pointer (some ⟨p + 2, 0, none⟩), .pointer (some ⟨p, 0, none⟩), .pointer (some ⟨p + 1, 0, none⟩)] w fun e w' => e = .returned (.bool (right (c.at 7) l h)) ∧ Below w.heap.size w w' := by
  have ho := of_7 c
  obtain ⟨h0, c0, c1, c2⟩ := hc
  have c2 : w.cell? ⟨p + 2, 0, none⟩ = some (.func (.func 74) #[] #[]) := c2
  generalize c.at 7 = x at *
  have hp0 : p < w.heap.size := by omega
  have hp1 : p + 1 < w.heap.size := by omega
  unfold Cfg.cells at ho ⊢
  go_enter Tryz.func66, Tryz.ntmps66
  go_wp2_with fail
  refine (ho _).mono ?_
  rintro e w1 ⟨rfl, hb⟩
  have d0 : w1.cell? ⟨p, 0, none⟩ = some (.int .i64 l) := (hb.cell (p := ⟨p, 0, none⟩) (by simp; omega)).trans ((World.cell?_alloc_lt w _ _ hp0).trans c0)
  have d1 : w1.cell? ⟨p + 1, 0, none⟩ = some (.int .i64 h) := (hb.cell (p := ⟨p + 1, 0, none⟩) (by simp; omega)).trans ((World.cell?_alloc_lt w _ _ hp1).trans c1)
  have hB : Below w.heap.size w w1 := ((Below.refl _ _).alloc (Nat.le_refl _) _).trans (hb.mono (by simp))
  by_cases q1 : l ≤ x
  · go_wp2
    go_ret
    exact ⟨by simp [right, q1], hB⟩
  · go_wp2
    go_ret
    exact ⟨by simp [right]; omega, hB⟩

set_option maxRecDepth 20000 in
set_option maxHeartbeats 400000 in
theorem inner_8 (c : Cfg) (p : Nat) (w : World) (l h : Int) (hc : Cap w p l h (fn 8)) :
    Calls Tryz.prog 66 #[.agg c.cells, .pointer (some ⟨p + 2, 0, none⟩), .pointer (some ⟨p, 0, none⟩), .pointer (some ⟨p + 1, 0, none⟩)] w fun e w' => e = .returned (.bool (right (c.at 8) l h)) ∧ Below w.heap.size w w' := by
  have ho := of_8 c
  obtain ⟨h0, c0, c1, c2⟩ := hc
  have c2 : w.cell? ⟨p + 2, 0, none⟩ = some (.func (.func 75) #[] #[]) := c2
  generalize c.at 8 = x at *
  have hp0 : p < w.heap.size := by omega
  have hp1 : p + 1 < w.heap.size := by omega
  unfold Cfg.cells at ho ⊢
  go_enter Tryz.func66, Tryz.ntmps66
  go_wp2_with fail
  refine (ho _).mono ?_
  rintro e w1 ⟨rfl, hb⟩
  have d0 : w1.cell? ⟨p, 0, none⟩ = some (.int .i64 l) := (hb.cell (p := ⟨p, 0, none⟩) (by simp; omega)).trans ((World.cell?_alloc_lt w _ _ hp0).trans c0)
  have d1 : w1.cell? ⟨p + 1, 0, none⟩ = some (.int .i64 h) := (hb.cell (p := ⟨p + 1, 0, none⟩) (by simp; omega)).trans ((World.cell?_alloc_lt w _ _ hp1).trans c1)
  have hB : Below w.heap.size w w1 := ((Below.refl _ _).alloc (Nat.le_refl _) _).trans (hb.mono (by simp))
  by_cases q1 : l ≤ x
  · go_wp2
    go_ret
    exact ⟨by simp [right, q1], hB⟩
  · go_wp2
    go_ret
    exact ⟨by simp [right]; omega, hB⟩

set_option maxRecDepth 20000 in
set_option maxHeartbeats 400000 in
theorem inner_9 (c : Cfg) (p : Nat) (w : World) (l h : Int) (hc : Cap w p l h (fn 9)) :
    Calls Tryz.prog 66 #[.agg c.cells, .pointer (some ⟨p + 2, 0, none⟩), .pointer (some ⟨p, 0, none⟩), .pointer (some ⟨p + 1, 0, none⟩)] w fun e w' => e = .returned (.bool (right (c.at 9) l h)) ∧ Below w.heap.size w w' := by
  have ho := of_9 c
  obtain ⟨h0, c0, c1, c2⟩ := hc
  have c2 : w.cell? ⟨p + 2, 0, none⟩ = some (.func (.func 76) #[] #[]) := c2
  generalize c.at 9 = x at *
  have hp0 : p < w.heap.size := by omega
  have hp1 : p + 1 < w.heap.size := by omega
  unfold Cfg.cells at ho ⊢
  go_enter Tryz.func66, Tryz.ntmps66
  go_wp2_with fail
  refine (ho _).mono ?_
  rintro e w1 ⟨rfl, hb⟩
  have d0 : w1.cell? ⟨p, 0, none⟩ = some (.int .i64 l) := (hb.cell (p := ⟨p, 0, none⟩) (by simp; omega)).trans ((World.cell?_alloc_lt w _ _ hp0).trans c0)
  have d1 : w1.cell? ⟨p + 1, 0, none⟩ = some (.int .i64 h) := (hb.cell (p := ⟨p + 1, 0, none⟩) (by simp; omega)).trans ((World.cell?_alloc_lt w _ _ hp1).trans c1)
  have hB : Below w.heap.size w w1 := ((Below.refl _ _).alloc (Nat.le_refl _) _).trans (hb.mono (by simp))
  by_cases q1 : l ≤ x
  · go_wp2
    go_ret
    exact ⟨by simp [right, q1], hB⟩
  · go_wp2
    go_ret
    exact ⟨by simp [right]; omega, hB⟩

set_option maxRecDepth 20000 in
set_option maxHeartbeats 400000 in
theorem inner_10 (c : Cfg) (p : Nat) (w : World) (l h : Int) (hc : Cap w p l h (fn 10)) :
    Calls Tryz.prog 66 #[.agg c.cells, .pointer (some ⟨p + 2, 0, none⟩), .pointer (some ⟨p, 0, none⟩), .pointer (some ⟨p + 1, 0, none⟩)] w fun e w' => e = .returned (.bool (right (c.at 10) l h)) ∧ Below w.heap.size w w' := by
  have ho := of_10 c
  obtain ⟨h0, c0, c1, c2⟩ := hc
  have c2 : w.cell? ⟨p + 2, 0, none⟩ = some (.func (.func 77) #[] #[]) := c2
  generalize c.at 10 = x at *
  have hp0 : p < w.heap.size := by omega
  have hp1 : p + 1 < w.heap.size := by omega
  unfold Cfg.cells at ho ⊢
  go_enter Tryz.func66, Tryz.ntmps66
  go_wp2_with fail
  refine (ho _).mono ?_
  rintro e w1 ⟨rfl, hb⟩
  have d0 : w1.cell? ⟨p, 0, none⟩ = some (.int .i64 l) := (hb.cell (p := ⟨p, 0, none⟩) (by simp; omega)).trans ((World.cell?_alloc_lt w _ _ hp0).trans c0)
  have d1 : w1.cell? ⟨p + 1, 0, none⟩ = some (.int .i64 h) := (hb.cell (p := ⟨p + 1, 0, none⟩) (by simp; omega)).trans ((World.cell?_alloc_lt w _ _ hp1).trans c1)
  have hB : Below w.heap.size w w1 := ((Below.refl _ _).alloc (Nat.le_refl _) _).trans (hb.mono (by simp))
  by_cases q1 : l ≤ x
  · go_wp2
    go_ret
    exact ⟨by simp [right, q1], hB⟩
  · go_wp2
    go_ret
    exact ⟨by simp [right]; omega, hB⟩

theorem inner_any (c : Cfg) (k : Nat) (hk : k < 11) (p : Nat) (w : World) (l h : Int) (hc : Cap w p l h (fn k)) :
    Calls Tryz.prog 66 #[.agg c.cells, .pointer (some ⟨p + 2, 0, none⟩), .pointer (some ⟨p, 0, none⟩), .pointer (some ⟨p + 1, 0, none⟩)] w fun e w' => e = .returned (.bool (right (c.at k) l h)) ∧ Below w.heap.size w w' := by
  match k, hk, hc with
  | 0, _, hc => exact inner_0 c p w l h hc
  | 1, _, hc => exact inner_1 c p w l h hc
  | 2, _, hc => exact inner_2 c p w l h hc
  | 3, _, hc => exact inner_3 c p w l h hc
  | 4, _, hc => exact inner_4 c p w l h hc
  | 5, _, hc => exact inner_5 c p w l h hc
  | 6, _, hc => exact inner_6 c p w l h hc
  | 7, _, hc => exact inner_7 c p w l h hc
  | 8, _, hc => exact inner_8 c p w l h hc
  | 9, _, hc => exact inner_9 c p w l h hc
  | 10, _, hc => exact inner_10 c p w l h hc
end Go.Proofs.YtlpnecmcncekcaaGreat.Conf
/- conf.fields: the row of fields. -/
namespace Go.Proofs.YtlpnecmcncekcaaGreat.Conf
open Go.RowKit

/-- At block b lies the row of fields. -/
def Fields (w : World) (b : Nat) (p : Nat → Nat) : Prop :=
  b < w.heap.size ∧ ∀ k, k < 11 → w.cell? ⟨b, 0 + k * 2, none⟩ = some (.string (word k)) ∧ w.cell? ⟨b, 0 + k * 2 + 1, none⟩ = some (clo (p k)) ∧ Cap w (p k) (lo k) (hi k) (fn k)

set_option maxRecDepth 20000 in
set_option maxHeartbeats 2000000 in
theorem fields_any (w : World) :
    Calls Tryz.prog 45 #[] w fun e w' => ∃ b p, e = .returned (.slice (some ⟨b, 0, none⟩) 11 11) ∧ Fields w' b p ∧ Below w.heap.size w w' := by
  have hmf : ∀ (fn : Fn) (first cap : Array Value) (w : World), (Instr.makeFunc fn first cap).run Tryz.prog w = .ok (.func fn first cap) w := fun _ _ _ _ => rfl
  go_enter Tryz.func45, Tryz.ntmps45
  go_wp2_with fail
  refine (one_any _ _ _ _ _).mono ?_
  rintro e w1 ⟨rfl, b1, p1⟩
  have s1 := b1.size
  go_wp2_with fail
  refine (one_any _ _ _ _ _).mono ?_
  rintro e w2 ⟨rfl, b2, p2⟩
  have s2 := b2.size
  go_wp2_with fail
  refine (one_any _ _ _ _ _).mono ?_
  rintro e w3 ⟨rfl, b3, p3⟩
  have s3 := b3.size
  go_wp2_with fail
  refine (one_any _ _ _ _ _).mono ?_
  rintro e w4 ⟨rfl, b4, p4⟩
  have s4 := b4.size
  go_wp2_with fail
  refine (one_any _ _ _ _ _).mono ?_
  rintro e w5 ⟨rfl, b5, p5⟩
  have s5 := b5.size
  go_wp2_with fail
  refine (one_any _ _ _ _ _).mono ?_
  rintro e w6 ⟨rfl, b6, p6⟩
  have s6 := b6.size
  go_wp2_with fail
  refine (one_any _ _ _ _ _).mono ?_
  rintro e w7 ⟨rfl, b7, p7⟩
  have s7 := b7.size
  go_wp2_with fail
  refine (one_any _ _ _ _ _).mono ?_
  rintro e w8 ⟨rfl, b8, p8⟩
  have s8 := b8.size
  go_wp2_with fail
  refine (one_any _ _ _ _ _).mono ?_
  rintro e w9 ⟨rfl, b9, p9⟩
  have s9 := b9.size
  go_wp2_with fail
  refine (one_any _ _ _ _ _).mono ?_
  rintro e w10 ⟨rfl, b10, p10⟩
  have s10 := b10.size
  go_wp2_with fail
  refine (one_any _ _ _ _ _).mono ?_
  rintro e w11 ⟨rfl, b11, p11⟩
  have s11 := b11.size
  have P11 := Lib.hid p11
  have P1 := Lib.hid ((((((((((p1.below b2).below b3).below b4).below b5).below b6).below b7).below b8).below b9).below b10).below b11)
  have P2 := Lib.hid (((((((((p2.below b3).below b4).below b5).below b6).below b7).below b8).below b9).below b10).below b11)
  have P3 := Lib.hid ((((((((p3.below b4).below b5).below b6).below b7).below b8).below b9).below b10).below b11)
  have P4 := Lib.hid (((((((p4.below b5).below b6).below b7).below b8).below b9).below b10).below b11)
  have P5 := Lib.hid ((((((p5.below b6).below b7).below b8).below b9).below b10).below b11)
  have P6 := Lib.hid (((((p6.below b7).below b8).below b9).below b10).below b11)
  have P7 := Lib.hid ((((p7.below b8).below b9).below b10).below b11)
  have P8 := Lib.hid (((p8.below b9).below b10).below b11)
  have P9 := Lib.hid ((p9.below b10).below b11)
  have P10 := Lib.hid (p10.below b11)
  have HB := Lib.hid ((((((((((((Below.refl w.heap.size w).trans (b1.mono (by omega))).trans (b2.mono (by omega))).trans (b3.mono (by omega))).trans (b4.mono (by omega))).trans (b5.mono (by omega))).trans (b6.mono (by omega))).trans (b7.mono (by omega))).trans (b8.mono (by omega))).trans (b9.mono (by omega))).trans (b10.mono (by omega))).trans (b11.mono (by omega)))
  clear p1 b1 p2 b2 p3 b3 p4 b4 p5 b5 p6 b6 p7 b7 p8 b8 p9 b9 p10 b10 p11 b11
  go_wp2
  go_ret
  refine ⟨w11.heap.size, fun | 0 => w.heap.size | 1 => w1.heap.size | 2 => w2.heap.size | 3 => w3.heap.size | 4 => w4.heap.size | 5 => w5.heap.size | 6 => w6.heap.size | 7 => w7.heap.size | 8 => w8.heap.size | 9 => w9.heap.size | _ => w10.heap.size, rfl, ⟨by simp, fun k hk => ?_⟩, HB.out.alloc (by omega) _⟩
  match k, hk with
  | 0, _ => exact ⟨cell_of_row _ _ 0 _ _ (0, 0) (heap_alloc_at w11 _ _ _ rfl), cell_of_row _ _ 1 _ _ (0, 0) (heap_alloc_at w11 _ _ _ rfl), P1.out.below ((Below.refl _ _).alloc (Nat.le_refl _) _)⟩
  | 1, _ => exact ⟨cell_of_row _ _ 2 _ _ (0, 0) (heap_alloc_at w11 _ _ _ rfl), cell_of_row _ _ 3 _ _ (0, 0) (heap_alloc_at w11 _ _ _ rfl), P2.out.below ((Below.refl _ _).alloc (Nat.le_refl _) _)⟩
  | 2, _ => exact ⟨cell_of_row _ _ 4 _ _ (0, 0) (heap_alloc_at w11 _ _ _ rfl), cell_of_row _ _ 5 _ _ (0, 0) (heap_alloc_at w11 _ _ _ rfl), P3.out.below ((Below.refl _ _).alloc (Nat.le_refl _) _)⟩
  | 3, _ => exact ⟨cell_of_row _ _ 6 _ _ (0, 0) (heap_alloc_at w11 _ _ _ rfl), cell_of_row _ _ 7 _ _ (0, 0) (heap_alloc_at w11 _ _ _ rfl), P4.out.below ((Below.refl _ _).alloc (Nat.le_refl _) _)⟩
  | 4, _ => exact ⟨cell_of_row _ _ 8 _ _ (0, 0) (heap_alloc_at w11 _ _ _ rfl), cell_of_row _ _ 9 _ _ (0, 0) (heap_alloc_at w11 _ _ _ rfl), P5.out.below ((Below.refl _ _).alloc (Nat.le_refl _) _)⟩
  | 5, _ => exact ⟨cell_of_row _ _ 10 _ _ (0, 0) (heap_alloc_at w11 _ _ _ rfl), cell_of_row _ _ 11 _ _ (0, 0) (heap_alloc_at w11 _ _ _ rfl), P6.out.below ((Below.refl _ _).alloc (Nat.le_refl _) _)⟩
  | 6, _ => exact ⟨cell_of_row _ _ 12 _ _ (0, 0) (heap_alloc_at w11 _ _ _ rfl), cell_of_row _ _ 13 _ _ (0, 0) (heap_alloc_at w11 _ _ _ rfl), P7.out.below ((Below.refl _ _).alloc (Nat.le_refl _) _)⟩
  | 7, _ => exact ⟨cell_of_row _ _ 14 _ _ (0, 0) (heap_alloc_at w11 _ _ _ rfl), cell_of_row _ _ 15 _ _ (0, 0) (heap_alloc_at w11 _ _ _ rfl), P8.out.below ((Below.refl _ _).alloc (Nat.le_refl _) _)⟩
  | 8, _ => exact ⟨cell_of_row _ _ 16 _ _ (0, 0) (heap_alloc_at w11 _ _ _ rfl), cell_of_row _ _ 17 _ _ (0, 0) (heap_alloc_at w11 _ _ _ rfl), P9.out.below ((Below.refl _ _).alloc (Nat.le_refl _) _)⟩
  | 9, _ => exact ⟨cell_of_row _ _ 18 _ _ (0, 0) (heap_alloc_at w11 _ _ _ rfl), cell_of_row _ _ 19 _ _ (0, 0) (heap_alloc_at w11 _ _ _ rfl), P10.out.below ((Below.refl _ _).alloc (Nat.le_refl _) _)⟩
  | 10, _ => exact ⟨cell_of_row _ _ 20 _ _ (0, 0) (heap_alloc_at w11 _ _ _ rfl), cell_of_row _ _ 21 _ _ (0, 0) (heap_alloc_at w11 _ _ _ rfl), P11.out.below ((Below.refl _ _).alloc (Nat.le_refl _) _)⟩
end Go.Proofs.YtlpnecmcncekcaaGreat.Conf
/- conf.Check: the first field that isn't right. -/
namespace Go.Proofs.YtlpnecmcncekcaaGreat.Conf
open Go.RowKit

def wrong (c : Cfg) : Nat → Nat → ByteArray
  | 0, _ => ⟨#[]⟩
  | n + 1, k => if right (c.at k) (lo k) (hi k) then wrong c n (k + 1) else word k
def code (c : Cfg) : Nat → Nat → Int
  | 0, _ => 0
  | n + 1, k => if right (c.at k) (lo k) (hi k) then code c n (k + 1) else 1

theorem Fields.below {w w' : World} {b : Nat} {p : Nat → Nat} (h : Fields w b p) (hb : Below w.heap.size w w') : Fields w' b p :=
  ⟨Nat.lt_of_lt_of_le h.1 hb.size, fun k hk => ⟨(hb.cell (p := ⟨b, 0 + k * 2, none⟩) h.1).trans (h.2 k hk).1, (hb.cell (p := ⟨b, 0 + k * 2 + 1, none⟩) h.1).trans (h.2 k hk).2.1, (h.2 k hk).2.2.below hb⟩⟩

set_option maxRecDepth 20000 in
set_option maxHeartbeats 2000000 in
theorem check_any (c : Cfg) (w : World) :
    Calls Tryz.prog 27 #[.agg c.cells] w fun e w' => e = .returned (.tuple #[.string (wrong c 11 0), .int .i64 (code c 11 0)]) ∧ Below w.heap.size w w' := by
  have hin := fun k hk p W l h hc => inner_any c k hk p W l h hc
  have HI := Lib.hid hin
  clear hin
  have hcc : c.cells = #[.slice c.A c.n c.cap, .int .i64 c.f1, .int .i64 c.f2, .int .i64 c.f3, .int .i64 c.f4, .int .i64 c.f5, .int .i64 c.f6, .int .i64 c.f7, .int .i64 c.f8, .int .i64 c.f9, .int .i64 c.f10, .int .u64 c.f11] := rfl
  rw [hcc] at *
  go_enter Tryz.func27, Tryz.ntmps27
  go_wp2_with fail
  refine (fields_any _).mono ?_
  rintro e w1 ⟨b, p, rfl, hf, hb⟩
  have h0 : w1.heap[w.heap.size]? = some (.cells c.cells 25 (0, 0)) := (hb.block _ (by simp)).trans (heap_alloc_new w _)
  have hz : w.heap.size < w1.heap.size := by have := hb.size; simp at this; omega
  have hB : Below w.heap.size w w1 := ((Below.refl _ _).alloc (Nat.le_refl _) _).trans (hb.mono (by simp))
  have H0 := Lib.hid (And.intro h0 (And.intro hz (And.intro hB hf)))
  clear h0 hz hB hf hb
  go_wp2
  go_loopw [8] (fun i wr => ∃ k : Nat, i = .int .i64 (k : Int) ∧ k ≤ 11 ∧ Hid (wrong c 11 0 = wrong c (11 - k) k ∧ code c 11 0 = code c (11 - k) k) ∧ Hid (wr.heap[w.heap.size]? = some (.cells c.cells 25 (0, 0)) ∧ w.heap.size < wr.heap.size ∧ Below w.heap.size w wr ∧ Fields wr b p))
    (fun i _ => 11 - (intOf i).toNat)
  case atStart => exact ⟨0, rfl, by decide, Lib.hid ⟨rfl, rfl⟩, H0⟩
  case round =>
    obtain ⟨k, rfl, hk, hp, H⟩ := hrel
    by_cases hlt : k < 11
    · obtain ⟨c0, c1, hcap⟩ := H.out.2.2.2.2 k hlt
      unfold clo at c1
      rw [Nat.zero_add] at c0 c1
      have x0 : wr.cell? ⟨w.heap.size, 0, none⟩ = some (.slice c.A c.n c.cap) := cell_of_row wr _ 0 _ _ (0, 0) H.out.1
      have x1 : wr.cell? ⟨w.heap.size, 1, none⟩ = some (.int .i64 c.f1) := cell_of_row wr _ 1 _ _ (0, 0) H.out.1
      have x2 : wr.cell? ⟨w.heap.size, 2, none⟩ = some (.int .i64 c.f2) := cell_of_row wr _ 2 _ _ (0, 0) H.out.1
      have x3 : wr.cell? ⟨w.heap.size, 3, none⟩ = some (.int .i64 c.f3) := cell_of_row wr _ 3 _ _ (0, 0) H.out.1
      have x4 : wr.cell? ⟨w.heap.size, 4, none⟩ = some (.int .i64 c.f4) := cell_of_row wr _ 4 _ _ (0, 0) H.out.1
      have x5 : wr.cell? ⟨w.heap.size, 5, none⟩ = some (.int .i64 c.f5) := cell_of_row wr _ 5 _ _ (0, 0) H.out.1
      have x6 : wr.cell? ⟨w.heap.size, 6, none⟩ = some (.int .i64 c.f6) := cell_of_row wr _ 6 _ _ (0, 0) H.out.1
      have x7 : wr.cell? ⟨w.heap.size, 7, none⟩ = some (.int .i64 c.f7) := cell_of_row wr _ 7 _ _ (0, 0) H.out.1
      have x8 : wr.cell? ⟨w.heap.size, 8, none⟩ = some (.int .i64 c.f8) := cell_of_row wr _ 8 _ _ (0, 0) H.out.1
      have x9 : wr.cell? ⟨w.heap.size, 9, none⟩ = some (.int .i64 c.f9) := cell_of_row wr _ 9 _ _ (0, 0) H.out.1
      have x10 : wr.cell? ⟨w.heap.size, 10, none⟩ = some (.int .i64 c.f10) := cell_of_row wr _ 10 _ _ (0, 0) H.out.1
      have x11 : wr.cell? ⟨w.heap.size, 11, none⟩ = some (.int .u64 c.f11) := cell_of_row wr _ 11 _ _ (0, 0) H.out.1
      have hw := H.out.2.1
      have HC := Lib.hid hcap
      clear hcap
      go_wp2_with fail
      refine (HI.out k hlt (p k) _ _ _ (HC.out.below ((Below.refl _ _).alloc (Nat.le_refl _) _))).mono ?_
      rintro e w2 ⟨rfl, hb2⟩
      have d0 : w2.cell? ⟨wr.heap.size, 0, none⟩ = some (.string (word k)) := (hb2.cell (p := ⟨wr.heap.size, 0, none⟩) (by simp)).trans (by simp)
      have hBr : Below wr.heap.size wr w2 := ((Below.refl _ _).alloc (Nat.le_refl _) _).trans (hb2.mono (by simp))
      have hsz := hBr.size
      have HW := Lib.hid (And.intro hBr hb2)
      have e1 : wrong c (11 - k) k = if right (c.at k) (lo k) (hi k) then wrong c (11 - (k + 1)) (k + 1) else word k := by
        rw [show 11 - k = 11 - (k + 1) + 1 from by omega, wrong]
      have e2 : code c (11 - k) k = if right (c.at k) (lo k) (hi k) then code c (11 - (k + 1)) (k + 1) else 1 := by
        rw [show 11 - k = 11 - (k + 1) + 1 from by omega, code]
      have HE := Lib.hid (And.intro e1 e2)
      clear e1 e2 hBr hb2 x0 x1 x2 x3 x4 x5 x6 x7 x8 x9 x10 x11 c0 c1 HC
      by_cases hr : right (c.at k) (lo k) (hi k) = true
      · have HR := Lib.hid hr
        rw [hr]
        clear hr
        go_wp2
        refine ⟨⟨k + 1, by go_num, by omega, Lib.hid ⟨?_, ?_⟩, Lib.hid ⟨(HW.out.1.block _ H.out.2.1).trans H.out.1, by omega, H.out.2.2.1.trans (HW.out.1.mono (by omega)), H.out.2.2.2.below HW.out.1⟩⟩, by simp [intOf]; omega⟩
        · rw [hp.out.1, HE.out.1, if_pos HR.out]
        · rw [hp.out.2, HE.out.2, if_pos HR.out]
      · have hr : right (c.at k) (lo k) (hi k) = false := by simpa using hr
        have HR := Lib.hid hr
        rw [hr]
        clear hr
        go_wp2
        go_ret2
        refine ⟨?_, H.out.2.2.1.trans (HW.out.1.mono (by omega))⟩
        rw [hp.out.1, HE.out.1, hp.out.2, HE.out.2, HR.out]
        rfl
    · obtain rfl : k = 11 := by omega
      go_wp2
      go_ret2
      refine ⟨?_, H.out.2.2.1⟩
      rw [hp.out.1, hp.out.2]
      rfl
end Go.Proofs.YtlpnecmcncekcaaGreat.Conf
/- conf.Plain, conf.Workers, conf.Dir, conf.Number. -/
namespace Go.Proofs.YtlpnecmcncekcaaGreat.Conf
open Go.RowKit

def clampN (n : Int) : Nat := (if n < 0 then 0 else if n ≤ 4 then n else 4).toNat
def bools (k : Nat) : List Value := (List.range k).map fun i : Nat => .bool ((i : Int) % 2 == 1)
theorem bools_succ (k : Nat) : bools (k + 1) = bools k ++ [.bool ((k : Int) % 2 == 1)] := by simp [bools, List.range_succ]
theorem infoB : (Tryz.prog.info? 4).map (fun i => (i.zero, i.size, i.bytes)) = some (some (.bool false), 1, 1) := by kernel_rfl

def plain (A : Option Addr) (n cap : Nat) (a : Int) : Cfg := ⟨A, n, cap, a, 2, 8, 8, 4, 3, 2, 4, 6, 0, 0⟩

theorem lt_blkC {w : World} {g : Nat} {o : Obj} (h : w.heap[g]? = some o) : g < w.heap.size := by
  rcases Nat.lt_or_ge g w.heap.size with h1 | h1
  · exact h1
  · rw [Array.getElem?_eq_none h1] at h; cases h

theorem own_keeps {w w1 : World} {base e n k : Nat} {v : Value} {xs : List Value} {o : Obj} (h : w.ownsRow base e 1 v n xs) (hk : k < base) (hb : w.heap[k]? = some o) (hg : w.grownBy w1 v.ownBlock) : w1.heap[k]? = some o :=
  (hg.block k (lt_blkC hb) fun e => by have := own_ge h k e.symm; omega).trans hb

theorem own_setlow {w : World} {base e n k i : Nat} {v u : Value} {xs : List Value} (h : w.ownsRow base e 1 v n xs) (hk : k < base) : (w.setCell ⟨k, i, none⟩ u).ownsRow base e 1 v n xs := by
  refine ⟨h.1, ?_⟩
  rcases h.2 with h2 | ⟨g, cap, cur, hv, hg, hh, r⟩
  · exact Or.inl h2
  · exact Or.inr ⟨g, cap, cur, hv, hg, (Below.heap_setCell _ _ _ _ (by show g ≠ k; omega)).trans hh, r⟩
theorem own_low {w : World} {base base' e n : Nat} {v : Value} {xs : List Value} (h : w.ownsRow base e 1 v n xs) (hb : base' ≤ base) : w.ownsRow base' e 1 v n xs := by
  refine ⟨h.1, ?_⟩
  rcases h.2 with h2 | ⟨g, cap, cur, hv, hg, hh, r⟩
  · exact Or.inl h2
  · exact Or.inr ⟨g, cap, cur, hv, by omega, hh, r⟩

set_option maxRecDepth 20000 in
set_option maxHeartbeats 1000000 in
theorem plain_mid (m : Nat) (hm : m ≤ 4) (a : Int) (w : World) :
    Calls Tryz.prog 14 #[.int .i64 ((m : Int)), .int .i64 a] w fun e w' => ∃ A cap, e = .returned (.agg (plain A (m) cap a).cells) ∧ w'.ownsRow w.heap.size 4 1 (.slice A (m) cap) (m) (bools (m)) ∧ Below w.heap.size w w' := by
  obtain ⟨i0, hi, hz0, hz1, hz2⟩ := info_parts infoB
  go_enter Tryz.func14, Tryz.ntmps14
  go_wp2
  go_loopw [5, 10] (fun v i wr => ∃ k : Nat, i = .int .i64 (k : Int) ∧ k ≤ m ∧ wr.ownsRow (w.heap.size + 1) 4 1 v k (bools k) ∧ Hid (Below w.heap.size w wr ∧ wr.heap[w.heap.size]? = some (.cells #[.slice none 0 0, .int .i64 0, .int .i64 0, .int .i64 0, .int .i64 0, .int .i64 0, .int .i64 0, .int .i64 0, .int .i64 0, .int .i64 0, .int .i64 0, .int .u64 0] 25 (0, 0))) ∧ w.heap.size < wr.heap.size)
    (fun _ i _ => m - (intOf i).toNat)
  case atStart => exact ⟨0, rfl, Nat.zero_le _, World.ownsRow_nil _ _ _ _, Lib.hid ⟨(Below.refl _ _).alloc (Nat.le_refl _) _, heap_alloc_new w _⟩, by simp⟩
  case round =>
    obtain ⟨k, rfl, hk, hown, H, hz⟩ := hrel
    obtain ⟨A, c, rfl⟩ := own_form hown
    by_cases hlt : k < m
    · have hw : wrap64 ((k : Int).tmod 2) = (k : Int) % 2 := by rw [Int.tmod_eq_emod_of_nonneg (by omega)]; exact IntWalk.wrap64_in _ ⟨by omega, by omega⟩
      have hk0 : (0 : Int) ≤ (k : Int) := by omega
      have hk4 : (k : Int) < 4 := by omega
      go_wp2_with (at_builtin; refine wpList_append_own _ rfl _ _ 22 rfl (w.heap.size + 1) 4 i0 (.bool false) 1 1 Tryz.underlying22 hi hz0 hz1 hz2 rfl (by decide) _ _ _ rfl (hown.alloc _) ⟨wr.heap.size, 0, none⟩ 1 1 [.bool ((k : Int) % 2 == 1)] rfl rfl (cell_one_new _ _ _) (one_one rfl) (by unfold maxLen; omega) (by omega) (by simp; omega) ?_; intro v1 w2 hown1 hg1 _)
      have hbox := own_keeps (hown.alloc (.cells #[.bool ((k : Int) % 2 == 1)] 4)) (Nat.lt_succ_self _) ((Below.heap_alloc _ _ _ hz).trans H.out.2) hg1
      refine ⟨⟨k + 1, by go_num, by omega, ?_, Lib.hid ⟨below_push H.out.1 (Nat.le_of_lt hz) (own_low hown (Nat.le_succ _)) hg1, hbox⟩, ?_⟩, by simp [intOf]; omega⟩
      · rw [bools_succ]
        exact hown1
      · have := hg1.size
        simp at this
        omega
    · obtain rfl : k = m := by omega
      have hB := H.out.1
      have x0 : wr.cell? ⟨w.heap.size, 0, none⟩ = some (.slice none 0 0) := cell_of_row wr _ 0 _ _ (0, 0) H.out.2
      have f0 : wr.frozen? ⟨w.heap.size, 0, none⟩ = false := by simp [World.frozen?, H.out.2]
      have x1 : wr.cell? ⟨w.heap.size, 1, none⟩ = some (.int .i64 0) := cell_of_row wr _ 1 _ _ (0, 0) H.out.2
      have f1 : wr.frozen? ⟨w.heap.size, 1, none⟩ = false := by simp [World.frozen?, H.out.2]
      have x2 : wr.cell? ⟨w.heap.size, 2, none⟩ = some (.int .i64 0) := cell_of_row wr _ 2 _ _ (0, 0) H.out.2
      have f2 : wr.frozen? ⟨w.heap.size, 2, none⟩ = false := by simp [World.frozen?, H.out.2]
      have x3 : wr.cell? ⟨w.heap.size, 3, none⟩ = some (.int .i64 0) := cell_of_row wr _ 3 _ _ (0, 0) H.out.2
      have f3 : wr.frozen? ⟨w.heap.size, 3, none⟩ = false := by simp [World.frozen?, H.out.2]
      have x4 : wr.cell? ⟨w.heap.size, 4, none⟩ = some (.int .i64 0) := cell_of_row wr _ 4 _ _ (0, 0) H.out.2
      have f4 : wr.frozen? ⟨w.heap.size, 4, none⟩ = false := by simp [World.frozen?, H.out.2]
      have x5 : wr.cell? ⟨w.heap.size, 5, none⟩ = some (.int .i64 0) := cell_of_row wr _ 5 _ _ (0, 0) H.out.2
      have f5 : wr.frozen? ⟨w.heap.size, 5, none⟩ = false := by simp [World.frozen?, H.out.2]
      have x6 : wr.cell? ⟨w.heap.size, 6, none⟩ = some (.int .i64 0) := cell_of_row wr _ 6 _ _ (0, 0) H.out.2
      have f6 : wr.frozen? ⟨w.heap.size, 6, none⟩ = false := by simp [World.frozen?, H.out.2]
      have x7 : wr.cell? ⟨w.heap.size, 7, none⟩ = some (.int .i64 0) := cell_of_row wr _ 7 _ _ (0, 0) H.out.2
      have f7 : wr.frozen? ⟨w.heap.size, 7, none⟩ = false := by simp [World.frozen?, H.out.2]
      have x8 : wr.cell? ⟨w.heap.size, 8, none⟩ = some (.int .i64 0) := cell_of_row wr _ 8 _ _ (0, 0) H.out.2
      have f8 : wr.frozen? ⟨w.heap.size, 8, none⟩ = false := by simp [World.frozen?, H.out.2]
      have x9 : wr.cell? ⟨w.heap.size, 9, none⟩ = some (.int .i64 0) := cell_of_row wr _ 9 _ _ (0, 0) H.out.2
      have f9 : wr.frozen? ⟨w.heap.size, 9, none⟩ = false := by simp [World.frozen?, H.out.2]
      have x10 : wr.cell? ⟨w.heap.size, 10, none⟩ = some (.int .i64 0) := cell_of_row wr _ 10 _ _ (0, 0) H.out.2
      have f10 : wr.frozen? ⟨w.heap.size, 10, none⟩ = false := by simp [World.frozen?, H.out.2]
      have x11 : wr.cell? ⟨w.heap.size, 11, none⟩ = some (.int .u64 0) := cell_of_row wr _ 11 _ _ (0, 0) H.out.2
      have f11 : wr.frozen? ⟨w.heap.size, 11, none⟩ = false := by simp [World.frozen?, H.out.2]
      go_wp2
      refine bodyPost_ret (v := .agg (plain A (k) c a).cells) (by simp [results, Tryz.results14, go_sem, plain, Cfg.cells, x0, x1, x2, x3, x4, x5, x6, x7, x8, x9, x10, x11]) rfl ?_
      exact ⟨A, c, rfl, own_low (own_setlow (own_setlow (own_setlow (own_setlow (own_setlow (own_setlow (own_setlow (own_setlow (own_setlow (own_setlow (own_setlow (own_setlow hown (Nat.lt_succ_self _)) (Nat.lt_succ_self _)) (Nat.lt_succ_self _)) (Nat.lt_succ_self _)) (Nat.lt_succ_self _)) (Nat.lt_succ_self _)) (Nat.lt_succ_self _)) (Nat.lt_succ_self _)) (Nat.lt_succ_self _)) (Nat.lt_succ_self _)) (Nat.lt_succ_self _)) (Nat.lt_succ_self _)) (Nat.le_succ _), (Below.setCell (p := ⟨w.heap.size, 11, none⟩) (Below.setCell (p := ⟨w.heap.size, 10, none⟩) (Below.setCell (p := ⟨w.heap.size, 9, none⟩) (Below.setCell (p := ⟨w.heap.size, 8, none⟩) (Below.setCell (p := ⟨w.heap.size, 7, none⟩) (Below.setCell (p := ⟨w.heap.size, 6, none⟩) (Below.setCell (p := ⟨w.heap.size, 5, none⟩) (Below.setCell (p := ⟨w.heap.size, 4, none⟩) (Below.setCell (p := ⟨w.heap.size, 3, none⟩) (Below.setCell (p := ⟨w.heap.size, 2, none⟩) (Below.setCell (p := ⟨w.heap.size, 1, none⟩) (Below.setCell (p := ⟨w.heap.size, 0, none⟩) hB (Nat.le_refl _) _) (Nat.le_refl _) _) (Nat.le_refl _) _) (Nat.le_refl _) _) (Nat.le_refl _) _) (Nat.le_refl _) _) (Nat.le_refl _) _) (Nat.le_refl _) _) (Nat.le_refl _) _) (Nat.le_refl _) _) (Nat.le_refl _) _) (Nat.le_refl _) _)⟩
end Go.Proofs.YtlpnecmcncekcaaGreat.Conf
