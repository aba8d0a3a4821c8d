/- life: a step, a crash, an end. -/
import Derived.Test.YticcobciafbleaaCommon
import Derived.Laws.EntriesVeiled
import Derived.Tactics
import Derived.Tactics2
import Derived.Defers
import Derived.Recover
import Derived.Laws.Pointers
namespace Go.Proofs.Yticcobciafbleaa.Life
open Go.RowKit

/-- The deferred closure: of a frame that panics, with 'crashed' true. -/
theorem catch_panicking (p : Addr) (u : TypeId) (pv : Value) (older : List PanicEntry) (w : World) (hc : w.cell? p = some (.bool true)) :
    CallsD Try.prog 131 #[.pointer (some p)] (.panicking ({ v := .iface u pv, recovered := false } :: older)) w fun e u' w' =>
      e = .returned (.tuple #[]) ∧ u' = .panicking ({ v := .iface u pv, recovered := true } :: older) ∧ w' = w := by
  refine callsD_of_wpS Try.func131 rfl fun c₀ cs hu => ?_
  apply wpS_seq
  apply wpS_region
  simp [wpOpsS, go_sem, hc, Try.ntmps131, Exit.thenS]
  refine wpS_cond (t := true) (by simp [Act.eval, Array.replicate]) ?_
  simp only [if_true]
  apply wpS_region
  simp [wpOpsS, go_sem, recoverD, hu, bodyPostS, results, Try.results131]

theorem catch_idle (p : Addr) (w : World) (hc : w.cell? p = some (.bool false)) :
    CallsD Try.prog 131 #[.pointer (some p)] .returning w fun e u' w' => e = .returned (.tuple #[]) ∧ u' = .returning ∧ w' = w := by
  refine callsD_of_wpS Try.func131 rfl fun c₀ cs hu => ?_
  apply wpS_seq
  apply wpS_region
  simp [wpOpsS, go_sem, hc, Try.ntmps131, Exit.thenS]
  refine wpS_cond (t := false) (by simp [Act.eval, Array.replicate]) ?_
  simp only [Bool.false_eq_true, if_false]
  refine wpS_of_wp (wp_skip ?_)
  cases c₀
  simp_all [bodyPostS, results, Try.results131]

theorem run_equalIn_func_nil {P : Program} (w : World) (d : Nat) (t : TypeId) (fn : Fn) (a b : Array Value) {x y : Array TypeId} {z : Bool} (h : P.underlying t = some (.func x y z)) : (Op.equalIn (d + 1) t (.func fn a b) .nilFunc).run P w = .ok false w := by
  simp [Op.equalIn, run_underlying h]
theorem run_eql_func_nil {P : Program} (w : World) (t : TypeId) (fn : Fn) (a b : Array Value) {x y : Array TypeId} {z : Bool} (h : P.underlying t = some (.func x y z)) : (binOp .eql t (.func fn a b) .nilFunc).run P w = .ok (.bool false) w := by
  have h1 : (Op.equal t (.func fn a b) .nilFunc).run P w = .ok false w := run_equalIn_func_nil w 9999 t fn a b h
  simp only [binOp]
  simp [h1]
theorem run_equalIn_nil_nil {P : Program} (w : World) (d : Nat) (t : TypeId) {x y : Array TypeId} {z : Bool} (h : P.underlying t = some (.func x y z)) : (Op.equalIn (d + 1) t .nilFunc .nilFunc).run P w = .ok true w := by
  simp [Op.equalIn, run_underlying h]
theorem run_eql_nil_nil {P : Program} (w : World) (t : TypeId) {x y : Array TypeId} {z : Bool} (h : P.underlying t = some (.func x y z)) : (binOp .eql t .nilFunc .nilFunc).run P w = .ok (.bool true) w := by
  have h1 : (Op.equal t .nilFunc .nilFunc).run P w = .ok true w := run_equalIn_nil_nil w 9999 t h
  simp only [binOp]
  simp [h1]
theorem nf0 (fn : Fn) (a b : Array Value) (w : World) : (binOp .eql 1 (.func fn a b) .nilFunc).run Try.prog w = .ok (.bool false) w := run_eql_func_nil w _ fn a b Try.underlying1
theorem nf1 (fn : Fn) (a b : Array Value) (w : World) : (binOp .eql 24 (.func fn a b) .nilFunc).run Try.prog w = .ok (.bool false) w := run_eql_func_nil w _ fn a b Try.underlying24
theorem nn0 (w : World) : (binOp .eql 1 .nilFunc .nilFunc).run Try.prog w = .ok (.bool true) w := run_eql_nil_nil w _ Try.underlying1
theorem nn1 (w : World) : (binOp .eql 24 .nilFunc .nilFunc).run Try.prog w = .ok (.bool true) w := run_eql_nil_nil w _ Try.underlying24

set_option maxRecDepth 20000 in
theorem safe_step (cap : Array Value) (w : World) (R : World → Prop)
    (hd : Calls Try.prog 103 cap (w.alloc (.cells #[.bool true] 4)) fun e w' => e = .returned (.tuple #[]) ∧ w'.cell? ⟨w.heap.size, 0, none⟩ = some (.bool true) ∧ w'.frozen? ⟨w.heap.size, 0, none⟩ = false ∧ R w') :
    Calls Try.prog 102 #[.func (.func 103) #[] cap] w fun e w' => e = .returned (.bool false) ∧ ∃ w0, R w0 ∧ w' = w0.setCell ⟨w.heap.size, 0, none⟩ (.bool false) := by
  have hmf : ∀ (fn : Fn) (first cap : Array Value) (w : World), (Instr.makeFunc fn first cap).run Try.prog w = .ok (.func fn first cap) w := fun _ _ _ _ => rfl
  have h0 := nf0
  have HD := Lib.hid hd
  clear hd
  go_enter_defers Try.func102, Try.ntmps102
  go_wp2_with fail
  refine HD.out.mono ?_
  rintro e w1 ⟨rfl, hc, hf, hr⟩
  go_wp2
  refine leaves_cons (f := 131) (args := #[.pointer (some ⟨w.heap.size, 0, none⟩)]) (by simp) (by simp [go_sem]) ?_
  refine (catch_idle ⟨w.heap.size, 0, none⟩ _ (World.cell?_setCell_same _ _ _ hc)).mono ?_
  rintro e u' w'' ⟨rfl, rfl, rfl⟩
  have hcc : (w1.setCell ⟨w.heap.size, 0, none⟩ (.bool false)).cell? ⟨w.heap.size, 0, none⟩ = some (.bool false) := World.cell?_setCell_same _ _ _ hc
  simp [Leaves, settle, results, Try.results102, go_sem, hcc]
  exact ⟨_, hr, rfl⟩

set_option maxRecDepth 20000 in
theorem safe_crash (cap : Array Value) (w : World) (R : World → Prop) (u : TypeId) (pv : Value)
    (hd : Calls Try.prog 103 cap (w.alloc (.cells #[.bool true] 4)) fun e w' => e = .panicked [{ v := .iface u pv, recovered := false }] ∧ w'.cell? ⟨w.heap.size, 0, none⟩ = some (.bool true) ∧ R w') :
    Calls Try.prog 102 #[.func (.func 103) #[] cap] w fun e w' => e = .returned (.bool true) ∧ R w' := by
  have hmf : ∀ (fn : Fn) (first cap : Array Value) (w : World), (Instr.makeFunc fn first cap).run Try.prog w = .ok (.func fn first cap) w := fun _ _ _ _ => rfl
  have h0 := nf0
  have HD := Lib.hid hd
  clear hd
  go_enter_defers Try.func102, Try.ntmps102
  go_wp2_with fail
  refine HD.out.mono ?_
  rintro e w1 ⟨rfl, hc, hr⟩
  go_wp2
  refine leaves_cons (f := 131) (args := #[.pointer (some ⟨w.heap.size, 0, none⟩)]) (by simp) (by simp [go_sem]) ?_
  refine (catch_panicking ⟨w.heap.size, 0, none⟩ _ _ [] _ hc).mono ?_
  rintro e u' w'' ⟨rfl, rfl, rfl⟩
  simp [Leaves, settle, results, Try.results102, go_sem, hc]
  exact hr

def on : Value := .func (.func 101) #[] #[]

set_option maxRecDepth 20000 in
theorem clo_ok (n g : Nat) (k : Int) (w : World) (hg : g < n) (h0 : 0 ≤ k) (h1 : k ≤ 100) (c0 : w.cell? ⟨n, 0, none⟩ = some (.pointer (some ⟨g, 0, none⟩))) (c1 : w.cell? ⟨n + 1, 0, none⟩ = some on) (c2 : w.cell? ⟨n + 1 + 1, 0, none⟩ = some (.bool false)) (c3 : w.cell? ⟨n + 1 + 1 + 1, 0, none⟩ = some (.bool false))
    (d2 : w.cell? ⟨g, 2, none⟩ = some (.int .i64 k)) (f2 : w.frozen? ⟨g, 2, none⟩ = false) (f3 : w.frozen? ⟨n + 1 + 1 + 1, 0, none⟩ = false) :
    Calls Try.prog 103 #[.pointer (some ⟨n + 1 + 1, 0, none⟩), .pointer (some ⟨n, 0, none⟩), .pointer (some ⟨n + 1, 0, none⟩), .pointer (some ⟨n + 1 + 1 + 1, 0, none⟩)] w fun e w' =>
      e = .returned (.tuple #[]) ∧ w' = (w.setCell ⟨g, 2, none⟩ (.int .i64 (k + 1))).setCell ⟨n + 1 + 1 + 1, 0, none⟩ (.bool true) := by
  have e0 : (n == g) = false := by simp; omega
  have e1 : (n + 1 == g) = false := by simp; omega
  have e3 : (n + 1 + 1 + 1 == g) = false := by simp; omega
  have g1 : ¬ n + 1 = g := by omega
  have g3 : ¬ n + 1 + 1 + 1 = g := by omega
  unfold on at c1
  go_enter Try.func103, Try.ntmps103
  go_wp2
  go_end0
  exact ⟨rfl, rfl⟩

theorem clo_crash (n : Nat) (p s q : Value) (w : World) (c2 : w.cell? ⟨n + 1 + 1, 0, none⟩ = some (.bool true)) :
    Calls Try.prog 103 #[.pointer (some ⟨n + 1 + 1, 0, none⟩), p, s, q] w fun e w' =>
      e = .panicked [{ v := .iface 26 (.int .i64 22), recovered := false }] ∧ w' = w := by
  go_enter Try.func103, Try.ntmps103
  go_wp2
  simp [bodyPost]

/-- At block g stands a life. -/
def L (w : World) (g : Nat) (who st k how : Int) : Prop := w.heap[g]? = some (.cells #[.int .i64 who, .int .i64 st, .int .i64 k, .int .i64 how] 150 (0, 0))
theorem L.lt {w : World} {g : Nat} {who st k how : Int} (h : L w g who st k how) : g < w.heap.size := by
  rcases Nat.lt_or_ge g w.heap.size with h1 | h1
  · exact h1
  · unfold L at h; rw [Array.getElem?_eq_none h1] at h; cases h
theorem L.facts {w : World} {g : Nat} {who st k how : Int} (h : L w g who st k how) : w.cell? ⟨g, 0, none⟩ = some (.int .i64 who) ∧ w.cell? ⟨g, 1, none⟩ = some (.int .i64 st) ∧ w.cell? ⟨g, 2, none⟩ = some (.int .i64 k) ∧ w.cell? ⟨g, 3, none⟩ = some (.int .i64 how) ∧ ∀ j, w.frozen? ⟨g, j, none⟩ = false :=
  ⟨cell_of_row w g 0 _ _ (0, 0) h, cell_of_row w g 1 _ _ (0, 0) h, cell_of_row w g 2 _ _ (0, 0) h, cell_of_row w g 3 _ _ (0, 0) h, fun j => by unfold L at h; simp [World.frozen?, h]⟩

theorem state_some {w : World} {g : Nat} {who st k how : Int} (h : L w g who st k how) : Calls Try.prog 42 #[.pointer (some ⟨g, 0, none⟩)] w fun e w' => e = .returned (.int .i64 st) ∧ w' = w := by
  obtain ⟨d0, d1, d2, d3, f⟩ := h.facts
  clear f
  go_enter Try.func42, Try.ntmps42
  go_wp2
  go_ret
  exact ⟨rfl, rfl⟩
theorem state_none (w : World) : Calls Try.prog 42 #[.pointer none] w fun e w' => e = .returned (.int .i64 2) ∧ w' = w := by
  go_enter Try.func42, Try.ntmps42
  go_wp2
  go_ret
  exact ⟨rfl, rfl⟩
theorem steps_none (w : World) : Calls Try.prog 43 #[.pointer none] w fun e w' => e = .returned (.int .i64 0) ∧ w' = w := by
  go_enter Try.func43, Try.ntmps43
  go_wp2
  go_ret
  exact ⟨rfl, rfl⟩
theorem exit_none (w : World) : Calls Try.prog 40 #[.pointer none] w fun e w' => e = .returned (.tuple #[.agg #[.int .i64 0, .int .i64 0, .int .i64 0], .bool false]) ∧ Below w.heap.size w w' := by
  go_enter Try.func40, Try.ntmps40
  go_wp2
  refine bodyPost_ret (v := .tuple #[.agg #[.int .i64 0, .int .i64 0, .int .i64 0], .bool false]) (by simp [results, Try.results40, go_sem]) rfl ⟨rfl, (Below.refl _ _).alloc (Nat.le_refl _) _⟩

theorem step_none (fn : Fn) (fa fb : Array Value) (c : Bool) (w : World) : Calls Try.prog 38 #[.pointer none, .func fn fa fb, .bool c] w fun e w' => e = .returned (.bool false) ∧ Below w.heap.size w w' := by
  go_enter Try.func38, Try.ntmps38
  go_wp2_with (go_at_call 42; ((with_reducible refine (state_none _).mono ?_); rintro e w1 ⟨rfl, rfl⟩))
  go_ret
  exact ⟨rfl, (((Below.refl _ _).alloc (Nat.le_refl _) _).alloc (by simp) _).alloc (by simp; omega) _⟩

theorem blk_lt {w : World} {g : Nat} {o : Obj} (h : w.heap[g]? = some o) : g < w.heap.size := by
  rcases Nat.lt_or_ge g w.heap.size with h1 | h1
  · exact h1
  · rw [Array.getElem?_eq_none h1] at h; cases h
theorem blk_far {w : World} {k j i : Nat} {o : Obj} {v : Value} (h : w.heap[k]? = some o) (hne : k ≠ j) : (w.setCell ⟨j, i, none⟩ v).heap[k]? = some o := (Below.heap_setCell _ _ _ _ hne).trans h
theorem blk_alloc {w : World} {k : Nat} {o o' : Obj} (h : w.heap[k]? = some o) : (w.alloc o').heap[k]? = some o := (Below.heap_alloc _ _ _ (blk_lt h)).trans h
theorem blk_set {w : World} {k : Nat} {a b : Value} {t : TypeId} (h : w.heap[k]? = some (.cells #[a] t (0, 0))) : (w.setCell ⟨k, 0, none⟩ b).heap[k]? = some (.cells #[b] t (0, 0)) := by
  simp [World.setCell, Array.getElem?_modify, h]
theorem blk_new (w : World) (cs : Array Value) (t : TypeId) (k : Nat) (h : k = w.heap.size) : (w.alloc (.cells cs t)).heap[k]? = some (.cells cs t (0, 0)) := h ▸ heap_alloc_new w _
theorem blk_cell {w : World} {k : Nat} {a : Value} {t : TypeId} (h : w.heap[k]? = some (.cells #[a] t (0, 0))) : w.cell? ⟨k, 0, none⟩ = some a := cell_of_row w k 0 _ _ (0, 0) h
theorem blk_free {w : World} {k : Nat} {cs : Array Value} {t : TypeId} (h : w.heap[k]? = some (.cells cs t (0, 0))) (j : Nat) : w.frozen? ⟨k, j, none⟩ = false := by simp [World.frozen?, h]
theorem L.set1 {w : World} {g : Nat} {who st k how : Int} (h : L w g who st k how) (x : Int) : L (w.setCell ⟨g, 1, none⟩ (.int .i64 x)) g who x k how := by
  unfold L at *; simp [World.setCell, Array.getElem?_modify, h]
theorem L.set2 {w : World} {g : Nat} {who st k how : Int} (h : L w g who st k how) (x : Int) : L (w.setCell ⟨g, 2, none⟩ (.int .i64 x)) g who st x how := by
  unfold L at *; simp [World.setCell, Array.getElem?_modify, h]
theorem L.set3 {w : World} {g : Nat} {who st k how : Int} (h : L w g who st k how) (x : Int) : L (w.setCell ⟨g, 3, none⟩ (.int .i64 x)) g who st k x := by
  unfold L at *; simp [World.setCell, Array.getElem?_modify, h]

theorem end_any {w : World} {g : Nat} {who st k how : Int} (h : L w g who st k how) (x : Int) : Calls Try.prog 104 #[.pointer (some ⟨g, 0, none⟩), .int .i64 x] w fun e w' =>
    e = .returned (.tuple #[]) ∧ w' = (w.setCell ⟨g, 1, none⟩ (.int .i64 2)).setCell ⟨g, 3, none⟩ (.int .i64 x) := by
  obtain ⟨d0, d1, d2, d3, f⟩ := h.facts
  have f1 := f 1
  have f3 := f 3
  clear f h
  go_enter Try.func104, Try.ntmps104
  go_wp2
  go_end0
  exact ⟨rfl, rfl⟩

theorem step_nil {w : World} {g : Nat} {who st k how : Int} (h : L w g who st k how) (c : Bool) : Calls Try.prog 38 #[.pointer (some ⟨g, 0, none⟩), .nilFunc, .bool c] w fun e w' =>
    e = .returned (.bool false) ∧ L w' g who st k how ∧ Below w.heap.size w w' := by
  have hnn := nn1
  have hL : ∀ a b c, L (((w.alloc (.cells #[a] 69)).alloc (.cells #[b] 24)).alloc (.cells #[c] 4)) g who st k how := fun a b c => blk_alloc (blk_alloc (blk_alloc h))
  have HL := Lib.hid hL
  clear hL h
  by_cases hs : st = 2
  · subst hs
    go_enter Try.func38, Try.ntmps38
    go_wp2_with fail
    refine (state_some (HL.out _ _ _)).mono ?_
    rintro e w1 ⟨rfl, rfl⟩
    go_wp2
    go_ret
    exact ⟨rfl, HL.out _ _ _, (((Below.refl _ _).alloc (Nat.le_refl _) _).alloc (by simp) _).alloc (by simp; omega) _⟩
  · have hsb : (st == 2) = false := by simpa using hs
    clear hs
    go_enter Try.func38, Try.ntmps38
    go_wp2_with fail
    refine (state_some (HL.out _ _ _)).mono ?_
    rintro e w1 ⟨rfl, rfl⟩
    go_wp2
    go_ret
    exact ⟨rfl, HL.out _ _ _, (((Below.refl _ _).alloc (Nat.le_refl _) _).alloc (by simp) _).alloc (by simp; omega) _⟩

set_option maxRecDepth 20000 in
set_option maxHeartbeats 1000000 in
theorem step_on {w : World} {g : Nat} {who st k how : Int} (h : L w g who st k how) (hs : st = 0 ∨ st = 1) (h0 : 0 ≤ k) (h1 : k ≤ 100) : Calls Try.prog 38 #[.pointer (some ⟨g, 0, none⟩), on, .bool false] w fun e w' =>
    e = .returned (.bool true) ∧ L w' g who 1 (k + 1) how ∧ Below g w w' := by
  have hmf : ∀ (fn : Fn) (first cap : Array Value) (w : World), (Instr.makeFunc fn first cap).run Try.prog w = .ok (.func fn first cap) w := fun _ _ _ _ => rfl
  have hnf := nf1
  have hst : (st == 2) = false := by rcases hs with rfl | rfl <;> rfl
  have hlt := h.lt
  have hL : L (((w.alloc (.cells #[.pointer (some ⟨g, 0, none⟩)] 69)).alloc (.cells #[on] 24)).alloc (.cells #[.bool false] 4)) g who st k how := blk_alloc (blk_alloc (blk_alloc h))
  have HS := Lib.hid (state_some hL)
  have hB : Below g w (((w.alloc (.cells #[.pointer (some ⟨g, 0, none⟩)] 69)).alloc (.cells #[on] 24)).alloc (.cells #[.bool false] 4)) := (((Below.refl _ _).alloc (by omega) _).alloc (by simp; omega) _).alloc (by simp; omega) _
  have q0 : (((w.alloc (.cells #[.pointer (some ⟨g, 0, none⟩)] 69)).alloc (.cells #[on] 24)).alloc (.cells #[.bool false] 4)).heap[w.heap.size]? = some (.cells #[.pointer (some ⟨g, 0, none⟩)] 69 (0, 0)) := blk_alloc (blk_alloc (blk_new _ _ _ _ rfl))
  have q1 : (((w.alloc (.cells #[.pointer (some ⟨g, 0, none⟩)] 69)).alloc (.cells #[on] 24)).alloc (.cells #[.bool false] 4)).heap[w.heap.size + 1]? = some (.cells #[on] 24 (0, 0)) := blk_alloc (blk_new _ _ _ _ (by simp))
  have q2 : (((w.alloc (.cells #[.pointer (some ⟨g, 0, none⟩)] 69)).alloc (.cells #[on] 24)).alloc (.cells #[.bool false] 4)).heap[w.heap.size + 1 + 1]? = some (.cells #[.bool false] 4 (0, 0)) := blk_new _ _ _ _ (by simp)
  have hz : (((w.alloc (.cells #[.pointer (some ⟨g, 0, none⟩)] 69)).alloc (.cells #[on] 24)).alloc (.cells #[.bool false] 4)).heap.size = w.heap.size + 1 + 1 + 1 := by simp
  have HQ := Lib.hid (And.intro hL (And.intro hB (And.intro q0 (And.intro q1 (And.intro q2 hz)))))
  clear hL hB q0 q1 q2 hz h
  unfold on
  go_enter Try.func38, Try.ntmps38
  go_wp2_with fail
  refine HS.out.mono ?_
  rintro e w1 ⟨rfl, he⟩
  have HQ1 : Hid (_ ∧ _) := HQ
  rw [← he] at HQ1
  clear he HQ HS
  have hB := HQ1.out.2.1
  have hz := HQ1.out.2.2.2.2.2
  have HB := Lib.hid hB
  generalize w.heap.size = n at *
  have q0 := blk_cell HQ1.out.2.2.1
  have q1 := blk_cell HQ1.out.2.2.2.1
  obtain ⟨d0, d1, d2, d3, f⟩ := HQ1.out.1.facts
  have f1 := f 1
  clear f hB
  unfold on at q1
  go_wp2_with fail
  clear d0 d1 d2 d3 f1 q0 q1
  obtain ⟨hL, _, r0, r1, r2, _⟩ := HQ1.out
  have l1 := (hL.set1 1)
  have v0 := blk_alloc (o' := .cells #[.bool false] 4) (blk_far (i := 1) (v := .int .i64 1) r0 (by omega : n ≠ g))
  have v1 := blk_alloc (o' := .cells #[.bool false] 4) (blk_far (i := 1) (v := .int .i64 1) r1 (by omega : n + 1 ≠ g))
  have v2 := blk_alloc (o' := .cells #[.bool false] 4) (blk_far (i := 1) (v := .int .i64 1) r2 (by omega : n + 1 + 1 ≠ g))
  have v3 := blk_new (w1.setCell ⟨g, 1, none⟩ (.int .i64 1)) #[.bool false] 4 (n + 1 + 1 + 1) (by rw [← hz]; simp [World.setCell])
  have lv : L ((w1.setCell ⟨g, 1, none⟩ (.int .i64 1)).alloc (.cells #[.bool false] 4)) g who 1 k how := blk_alloc l1
  have hBv : Below g w ((w1.setCell ⟨g, 1, none⟩ (.int .i64 1)).alloc (.cells #[.bool false] 4)) := (HB.out.setCell (p := ⟨g, 1, none⟩) (Nat.le_refl _) _).alloc (by simp [World.setCell]; omega) _
  have hzv : ((w1.setCell ⟨g, 1, none⟩ (.int .i64 1)).alloc (.cells #[.bool false] 4)).heap.size = n + 1 + 1 + 1 + 1 := by simp [World.setCell, hz]
  clear hL r0 r1 r2 l1 hz HQ1 HB
  generalize (w1.setCell ⟨g, 1, none⟩ (.int .i64 1)).alloc (.cells #[.bool false] 4) = V at *
  have lW : L (V.alloc (.cells #[.bool true] 4)) g who 1 k how := blk_alloc lv
  have u4 := blk_new V #[.bool true] 4 (n + 1 + 1 + 1 + 1) hzv.symm
  have hc := clo_ok n g k (V.alloc (.cells #[.bool true] 4)) hlt h0 h1 (blk_cell (blk_alloc v0)) (blk_cell (blk_alloc v1)) (blk_cell (blk_alloc v2)) (blk_cell (blk_alloc v3)) lW.facts.2.2.1 (lW.facts.2.2.2.2 2) (blk_free (blk_alloc v3) 0)
  have hsafe := safe_step #[.pointer (some ⟨n + 1 + 1, 0, none⟩), .pointer (some ⟨n, 0, none⟩), .pointer (some ⟨n + 1, 0, none⟩), .pointer (some ⟨n + 1 + 1 + 1, 0, none⟩)] V
    (fun w0 => L w0 g who 1 (k + 1) how ∧ w0.heap[n]? = some (.cells #[.pointer (some ⟨g, 0, none⟩)] 69 (0, 0)) ∧ w0.heap[n + 1 + 1 + 1]? = some (.cells #[.bool true] 4 (0, 0)) ∧ Below g w w0) (hc.mono fun e w' ⟨he, hw⟩ => by
      subst hw
      rw [hzv]
      have r4 := blk_far (i := 0) (v := .bool true) (blk_far (i := 2) (v := .int .i64 (k + 1)) u4 (by omega : n + 1 + 1 + 1 + 1 ≠ g)) (by omega : n + 1 + 1 + 1 + 1 ≠ n + 1 + 1 + 1)
      refine ⟨he, blk_cell r4, blk_free r4 0, blk_far (lW.set2 (k + 1)) (by omega), blk_far (blk_far (blk_alloc v0) (by omega)) (by omega), blk_set (blk_far (blk_alloc v3) (by omega)), ?_⟩
      exact ((hBv.alloc (by omega) _).setCell (p := ⟨g, 2, none⟩) (Nat.le_refl _) _).setCell (p := ⟨n + 1 + 1 + 1, 0, none⟩) (by show g ≤ n + 1 + 1 + 1; omega) _)
  rw [hzv] at hsafe
  clear hc u4 lW lv v0 v1 v2 v3 hBv
  refine hsafe.mono ?_
  rintro e w5 ⟨rfl, w0, ⟨l0, a0, a3, hB0⟩, rfl⟩
  have l5 : L (w0.setCell ⟨n + 1 + 1 + 1 + 1, 0, none⟩ (.bool false)) g who 1 (k + 1) how := blk_far l0 (by omega)
  have b0 : (w0.setCell ⟨n + 1 + 1 + 1 + 1, 0, none⟩ (.bool false)).heap[n]? = _ := blk_far a0 (by omega)
  have b3 : (w0.setCell ⟨n + 1 + 1 + 1 + 1, 0, none⟩ (.bool false)).heap[n + 1 + 1 + 1]? = _ := blk_far a3 (by omega)
  have hB5 : Below g w (w0.setCell ⟨n + 1 + 1 + 1 + 1, 0, none⟩ (.bool false)) := hB0.setCell (p := ⟨n + 1 + 1 + 1 + 1, 0, none⟩) (by show g ≤ n + 1 + 1 + 1 + 1; omega) _
  clear l0 a0 a3 hB0 hsafe
  generalize w0.setCell ⟨n + 1 + 1 + 1 + 1, 0, none⟩ (.bool false) = w6 at *
  have p0 := blk_cell b0
  have p3 := blk_cell b3
  have d1 := l5.facts.2.1
  have H5 := Lib.hid (And.intro l5 hB5)
  clear l5 hB5 b0 b3
  go_wp2
  go_ret
  exact ⟨rfl, H5.out.1, H5.out.2⟩

set_option maxRecDepth 20000 in
set_option maxHeartbeats 1000000 in
theorem step_crash {w : World} {g : Nat} {who st k how : Int} (h : L w g who st k how) (hs : st = 0 ∨ st = 1) : Calls Try.prog 38 #[.pointer (some ⟨g, 0, none⟩), on, .bool true] w fun e w' =>
    e = .returned (.bool false) ∧ L w' g who 2 k 2 ∧ Below g w w' := by
  have hmf : ∀ (fn : Fn) (first cap : Array Value) (w : World), (Instr.makeFunc fn first cap).run Try.prog w = .ok (.func fn first cap) w := fun _ _ _ _ => rfl
  have hnf := nf1
  have hst : (st == 2) = false := by rcases hs with rfl | rfl <;> rfl
  have hlt := h.lt
  have hL : L (((w.alloc (.cells #[.pointer (some ⟨g, 0, none⟩)] 69)).alloc (.cells #[on] 24)).alloc (.cells #[.bool true] 4)) g who st k how := blk_alloc (blk_alloc (blk_alloc h))
  have HS := Lib.hid (state_some hL)
  have hB : Below g w (((w.alloc (.cells #[.pointer (some ⟨g, 0, none⟩)] 69)).alloc (.cells #[on] 24)).alloc (.cells #[.bool true] 4)) := (((Below.refl _ _).alloc (by omega) _).alloc (by simp; omega) _).alloc (by simp; omega) _
  have q0 : (((w.alloc (.cells #[.pointer (some ⟨g, 0, none⟩)] 69)).alloc (.cells #[on] 24)).alloc (.cells #[.bool true] 4)).heap[w.heap.size]? = some (.cells #[.pointer (some ⟨g, 0, none⟩)] 69 (0, 0)) := blk_alloc (blk_alloc (blk_new _ _ _ _ rfl))
  have q1 : (((w.alloc (.cells #[.pointer (some ⟨g, 0, none⟩)] 69)).alloc (.cells #[on] 24)).alloc (.cells #[.bool true] 4)).heap[w.heap.size + 1]? = some (.cells #[on] 24 (0, 0)) := blk_alloc (blk_new _ _ _ _ (by simp))
  have q2 : (((w.alloc (.cells #[.pointer (some ⟨g, 0, none⟩)] 69)).alloc (.cells #[on] 24)).alloc (.cells #[.bool true] 4)).heap[w.heap.size + 1 + 1]? = some (.cells #[.bool true] 4 (0, 0)) := blk_new _ _ _ _ (by simp)
  have hz : (((w.alloc (.cells #[.pointer (some ⟨g, 0, none⟩)] 69)).alloc (.cells #[on] 24)).alloc (.cells #[.bool true] 4)).heap.size = w.heap.size + 1 + 1 + 1 := by simp
  have HQ := Lib.hid (And.intro hL (And.intro hB (And.intro q0 (And.intro q1 (And.intro q2 hz)))))
  clear hL hB q0 q1 q2 hz h
  unfold on
  go_enter Try.func38, Try.ntmps38
  go_wp2_with fail
  refine HS.out.mono ?_
  rintro e w1 ⟨rfl, he⟩
  have HQ1 : Hid (_ ∧ _) := HQ
  rw [← he] at HQ1
  clear he HQ HS
  have hB := HQ1.out.2.1
  have hz := HQ1.out.2.2.2.2.2
  have HB := Lib.hid hB
  generalize w.heap.size = n at *
  have q0 := blk_cell HQ1.out.2.2.1
  have q1 := blk_cell HQ1.out.2.2.2.1
  obtain ⟨d0, d1, d2, d3, f⟩ := HQ1.out.1.facts
  have f1 := f 1
  clear f hB
  unfold on at q1
  go_wp2_with fail
  clear d0 d1 d2 d3 f1 q0 q1
  obtain ⟨hL, _, r0, r1, r2, _⟩ := HQ1.out
  have l1 := (hL.set1 1)
  have v0 := blk_alloc (o' := .cells #[.bool false] 4) (blk_far (i := 1) (v := .int .i64 1) r0 (by omega : n ≠ g))
  have v1 := blk_alloc (o' := .cells #[.bool false] 4) (blk_far (i := 1) (v := .int .i64 1) r1 (by omega : n + 1 ≠ g))
  have v2 := blk_alloc (o' := .cells #[.bool false] 4) (blk_far (i := 1) (v := .int .i64 1) r2 (by omega : n + 1 + 1 ≠ g))
  have v3 := blk_new (w1.setCell ⟨g, 1, none⟩ (.int .i64 1)) #[.bool false] 4 (n + 1 + 1 + 1) (by rw [← hz]; simp [World.setCell])
  have lv : L ((w1.setCell ⟨g, 1, none⟩ (.int .i64 1)).alloc (.cells #[.bool false] 4)) g who 1 k how := blk_alloc l1
  have hBv : Below g w ((w1.setCell ⟨g, 1, none⟩ (.int .i64 1)).alloc (.cells #[.bool false] 4)) := (HB.out.setCell (p := ⟨g, 1, none⟩) (Nat.le_refl _) _).alloc (by simp [World.setCell]; omega) _
  have hzv : ((w1.setCell ⟨g, 1, none⟩ (.int .i64 1)).alloc (.cells #[.bool false] 4)).heap.size = n + 1 + 1 + 1 + 1 := by simp [World.setCell, hz]
  clear hL r0 r1 r2 l1 hz HQ1 HB
  generalize (w1.setCell ⟨g, 1, none⟩ (.int .i64 1)).alloc (.cells #[.bool false] 4) = V at *
  have lW : L (V.alloc (.cells #[.bool true] 4)) g who 1 k how := blk_alloc lv
  have u4 := blk_new V #[.bool true] 4 (n + 1 + 1 + 1 + 1) hzv.symm
  have hc := clo_crash n (.pointer (some ⟨n, 0, none⟩)) (.pointer (some ⟨n + 1, 0, none⟩)) (.pointer (some ⟨n + 1 + 1 + 1, 0, none⟩)) (V.alloc (.cells #[.bool true] 4)) (blk_cell (blk_alloc v2))
  have hsafe := safe_crash #[.pointer (some ⟨n + 1 + 1, 0, none⟩), .pointer (some ⟨n, 0, none⟩), .pointer (some ⟨n + 1, 0, none⟩), .pointer (some ⟨n + 1 + 1 + 1, 0, none⟩)] V
    (fun w0 => L w0 g who 1 k how ∧ w0.heap[n]? = some (.cells #[.pointer (some ⟨g, 0, none⟩)] 69 (0, 0)) ∧ Below g w w0) _ _ (hc.mono fun e w' ⟨he, hw⟩ => by
      subst hw
      rw [hzv]
      exact ⟨he, blk_cell u4, lW, blk_alloc v0, hBv.alloc (by omega) _⟩)
  clear hc u4 lW lv v0 v1 v2 v3 hBv
  refine hsafe.mono ?_
  rintro e w6 ⟨rfl, l5, b0, hB5⟩
  have p0 := blk_cell b0
  have d1 := l5.facts.2.1
  have HE := Lib.hid (end_any l5 2)
  have H5 := Lib.hid (And.intro l5 hB5)
  clear l5 hB5 hsafe
  go_wp2_with fail
  refine HE.out.mono ?_
  rintro e w7 ⟨rfl, rfl⟩
  have l7 := (H5.out.1.set1 2).set3 2
  have hB7 := (H5.out.2.setCell (p := ⟨g, 1, none⟩) (Nat.le_refl _) (.int .i64 2)).setCell (p := ⟨g, 3, none⟩) (Nat.le_refl _) (.int .i64 2)
  have b7 := blk_cell (blk_far (i := 3) (v := .int .i64 2) (blk_far (i := 1) (v := .int .i64 2) b0 (by omega : n ≠ g)) (by omega : n ≠ g))
  clear b0 p0 d1 HE
  generalize (w6.setCell ⟨g, 1, none⟩ (.int .i64 2)).setCell ⟨g, 3, none⟩ (.int .i64 2) = w8 at *
  have d1 := l7.facts.2.1
  have H7 := Lib.hid (And.intro l7 hB7)
  clear l7 hB7
  go_wp2
  go_ret
  exact ⟨rfl, H7.out.1, H7.out.2⟩

end Go.Proofs.Yticcobciafbleaa.Life
