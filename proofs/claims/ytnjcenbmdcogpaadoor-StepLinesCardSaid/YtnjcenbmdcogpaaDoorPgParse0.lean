/- The page's Parse: what lies where, while it runs. -/
import Derived.Test.YtnjcenbmdcogpaaDoorStpParse0
import Derived.Test.YtnjcenbmdcogpaaDoorPgStWord
import Derived.Test.YtnjcenbmdcogpaaDoorPgStBad
import Derived.Test.YtnjcenbmdcogpaaDoorPgStBytes
namespace Go.Proofs.YtnjcenbmdcogpaaDoor.Sp
open Go Go.Lib Go.RowKit

theorem strict_0 {ws : List Bs} (h : kL (ws.getD 0 []) = 0) : strict ws = none := by
  unfold strict
  split
  · rename_i a; rw [if_neg (by show ¬ kL ([a].getD 0 []) = 7; omega), if_neg (by show ¬ kL ([a].getD 0 []) = 8; omega)]
  · rename_i a b
    have h : kL a = 0 := h
    rw [h]; rfl
  · rename_i a b c
    have h : kL a = 0 := h
    rw [h]; rfl
  · rename_i a b c d e
    have h : kL a = 0 := h
    rw [h]; rfl
  · rfl
def manyK (k : Nat) : Nat := if k = 3 then 5 else if k = 6 then 3 else if k = 7 ∨ k = 8 then 1 else 2
theorem strict_many {ws : List Bs} {k : Nat} (h : kL (ws.getD 0 []) = k) (h0 : k ≠ 0) (hn : ws.length ≠ manyK k) : strict ws = none := by
  have h8 := kL_le (ws.getD 0 [])
  unfold manyK at hn
  unfold strict
  split
  · rename_i a
    have h : kL a = k := h
    have hn : 1 ≠ _ := hn
    by_cases h7 : k = 7
    · subst h7; exact absurd rfl hn
    · by_cases h8 : k = 8
      · subst h8; exact absurd rfl hn
      · rw [if_neg (by omega), if_neg (by omega)]
  · rename_i a b
    have h : kL a = k := h
    have hn : 2 ≠ _ := hn
    by_cases h3 : k = 3 ∨ k = 6 ∨ k = 7 ∨ k = 8
    · rw [if_neg (by omega), if_neg (by omega), if_neg (by omega), if_neg (by omega)]
    · rw [if_neg (by omega), if_neg (by omega), if_neg (by omega)] at hn
      exact absurd rfl hn
  · rename_i a b c
    have h : kL a = k := h
    have hn : 3 ≠ _ := hn
    by_cases h6 : k = 6
    · subst h6; exact absurd rfl hn
    · rw [if_neg (by omega)]
  · rename_i a b c d e
    have h : kL a = k := h
    have hn : 5 ≠ _ := hn
    by_cases h6 : k = 3
    · subst h6; exact absurd rfl hn
    · rw [if_neg (by omega)]
  · rfl

/-- a word of a row -/
def gx (xs : List ByteArray) (i : Nat) : ByteArray := xs.getD i ⟨#[]⟩
structure PG (w W : World) (T g : Nat) (xs : List ByteArray) (x : St) : Prop where
  b : Below w.heap.size w W
  r : ∃ y : St, W.heap[w.heap.size]? = some (.cells y.cells 27 (0, 0))
  row : ∀ i, i < xs.length → W.cell? ⟨g, i, none⟩ = some (.string (gx xs i))
  gl : g < W.heap.size
  t : W.heap[T]? = some (.cells x.cells 27 (0, 0))
  hg : w.heap.size < g
  hT : g < T
theorem PG.below {w W W' : World} {T g : Nat} {xs : List ByteArray} {x : St} (h : PG w W T g xs x) (hb : Below W.heap.size W W') : PG w W' T g xs x := by
  have lt : ∀ k o, W.heap[k]? = some o → k < W.heap.size := fun k o e => (Array.getElem?_eq_some_iff.1 e).1
  obtain ⟨y, hy⟩ := h.r
  exact ⟨h.b.trans (hb.mono h.b.size), ⟨y, (hb.block _ (lt _ _ hy)).trans hy⟩, fun i hi => (hb.cell (p := ⟨g, i, none⟩) h.gl).trans (h.row i hi), Nat.lt_of_lt_of_le h.gl hb.size, (hb.block _ (lt _ _ h.t)).trans h.t, h.hg, h.hT⟩
theorem PG.set {w W : World} {T g : Nat} {xs : List ByteArray} {x x' : St} (h : PG w W T g xs x) (i : Nat) (v : Value) (hx : x.cells.setIfInBounds i v = x'.cells) : PG w (W.setCell ⟨T, i, none⟩ v) T g xs x' := by
  have hT := h.hT; have hg := h.hg
  have bl : ∀ k, k ≠ T → (W.setCell ⟨T, i, none⟩ v).heap[k]? = W.heap[k]? := fun k hk => Below.heap_setCell _ _ _ _ hk
  obtain ⟨y, hy⟩ := h.r
  exact ⟨h.b.setCell (p := ⟨T, i, none⟩) (by show w.heap.size ≤ T; omega) v, ⟨y, (bl _ (by omega)).trans hy⟩, fun j hj => (cell_of_blk (bl _ (by omega))).trans (h.row j hj), by simpa using h.gl, by rw [← hx]; exact set_cells h.t v, hg, hT⟩
theorem PG.setR {w W : World} {T g : Nat} {xs : List ByteArray} {x y : St} (h : PG w W T g xs x) : PG w (W.setRow w.heap.size y.cells) T g xs x := by
  have hT := h.hT; have hg := h.hg
  obtain ⟨y0, hy⟩ := h.r
  have bl : ∀ k, k ≠ w.heap.size → (W.setRow w.heap.size y.cells).heap[k]? = W.heap[k]? := fun k hk => setRow_other _ _ _ _ (by omega)
  exact ⟨⟨h.b.os, h.b.tape, h.b.output, by simpa using h.b.size, fun i hi => (bl _ (by omega)).trans (h.b.block i hi)⟩, ⟨y, setRow_heap W w.heap.size _ y.cells 27 (0, 0) hy⟩, fun j hj => (cell_of_blk (bl _ (by omega))).trans (h.row j hj), by simpa using h.gl, (bl _ (by omega)).trans h.t, hg, hT⟩
theorem PG.cells {w W : World} {T g : Nat} {xs : List ByteArray} {x : St} (h : PG w W T g xs x) : (W.cell? ⟨T, 0, none⟩ = some (.int .i64 x.k) ∧ W.cell? ⟨T, 1, none⟩ = some (.int .i64 x.sd) ∧ W.cell? ⟨T, 2, none⟩ = some (.int .i64 x.n) ∧ W.cell? ⟨T, 3, none⟩ = some (.int .i64 x.c) ∧ W.cell? ⟨T, 4, none⟩ = some (.int .i64 x.f) ∧ W.cell? ⟨T, 5, none⟩ = some (.int .u64 x.s) ∧ W.cell? ⟨T, 6, none⟩ = some (.int .u64 x.t) ∧ W.cell? ⟨T, 7, none⟩ = some (.string x.d)) ∧
    (W.frozen? ⟨T, 0, none⟩ = false ∧ W.frozen? ⟨T, 1, none⟩ = false ∧ W.frozen? ⟨T, 2, none⟩ = false ∧ W.frozen? ⟨T, 3, none⟩ = false ∧ W.frozen? ⟨T, 4, none⟩ = false ∧ W.frozen? ⟨T, 6, none⟩ = false ∧ W.frozen? ⟨T, 7, none⟩ = false) := by
  have c : ∀ i, W.cell? ⟨T, i, none⟩ = x.cells[i]? := fun i => cell_of_row _ _ _ _ _ (0, 0) h.t
  have f : ∀ i, W.frozen? ⟨T, i, none⟩ = false := fun i => Lib.frozen_of_heap h.t i
  exact ⟨⟨c 0, c 1, c 2, c 3, c 4, c 5, c 6, c 7⟩, f 0, f 1, f 2, f 3, f 4, f 6, f 7⟩
theorem PG.start {w w1 : World} {xs : List ByteArray} {v : Value} (hb : Below (w.alloc (.cells St0.cells 27)).heap.size (w.alloc (.cells St0.cells 27)) w1) (hown : w1.ownsRow (w.heap.size + 1) 9 1 v xs.length (xs.map Value.string)) (h0 : xs ≠ []) :
    ∃ g cap, v = .slice (some ⟨g, 0, none⟩) xs.length cap ∧ PG w (w1.alloc (.cells St0.cells 27)) w1.heap.size g xs St0 := by
  have hp : 0 < xs.length := List.length_pos_iff.2 h0
  rcases hown.2 with ⟨_, hx⟩ | ⟨g, cap, cur, rfl, hbg, hg, _⟩
  · exact absurd (by simpa using hx) h0
  · have hgl := (Array.getElem?_eq_some_iff.1 hg).1
    refine ⟨g, cap, rfl, ?_⟩
    have hb1 : Below w.heap.size w w1 := ((Below.refl w.heap.size w).alloc (Nat.le_refl _) (.cells St0.cells 27)).trans (hb.mono (by simp))
    have hb2 : Below w1.heap.size w1 (w1.alloc (.cells St0.cells 27)) := (Below.refl _ _).alloc (Nat.le_refl _) _
    have hr : w1.heap[w.heap.size]? = some (.cells St0.cells 27 (0, 0)) := (hb.block _ (by simp)).trans (heap_alloc_new _ _)
    refine ⟨hb1.trans (hb2.mono hb1.size), ⟨St0, (hb2.block _ (Array.getElem?_eq_some_iff.1 hr).1).trans hr⟩, fun i hi => (hb2.cell (p := ⟨g, i, none⟩) hgl).trans ?_, Nat.lt_of_lt_of_le hgl hb2.size, heap_alloc_new _ _, by omega, hgl⟩
    have := hown.cells (g := g) rfl i (.string (gx xs i)) (by unfold gx; rw [List.getElem?_map, List.getElem?_eq_getElem hi, List.getD_eq_getElem?_getD, List.getElem?_eq_getElem hi]; rfl)
    rw [← this]
    unfold Addr.add
    by_cases hz : i = 0 <;> simp [hz]
def kx (kk k : Nat) : Int := if kk < k then (kk : Int) else 0
def stK (n : Int) : St := ⟨n, 0, 0, 0, 0, 0, 0, ⟨#[]⟩⟩
/-- how the page's Parse ends -/
def pP (l : Bs) (e : Ending) : Prop := (∃ x : St, strict (sp l) = some x ∧ e = .returned (.tuple #[.agg x.cells, .bool true])) ∨ (strict (sp l) = none ∧ ∃ x : St, e = .returned (.tuple #[.agg x.cells, .bool false]))
theorem res8p (tmps : Array Value) (w : World) (g : Nat) (x : St) (n : Bool) (hp : tmps.getD 2 undef = .pointer (some ⟨g, 0, none⟩)) (h3 : tmps.getD 3 undef = .bool n)
    (hg : w.heap[g]? = some (.cells x.cells 27 (0, 0))) : (results Tryd.f6 tmps).run Tryd.prog w = .ok (.tuple #[.agg x.cells, .bool n]) w := by
  have hp' : tmps[2]?.getD undef = .pointer (some ⟨g, 0, none⟩) := by simpa using hp
  have h3' : tmps[3]?.getD undef = .bool n := by simpa using h3
  simp [results, Tryd.results6, hp', h3', asAddr, run_loadVar_row w g 27 27 x.cells (0, 0) _ hg Tryd.underlying27 rfl (hi8 x)]
end Go.Proofs.YtnjcenbmdcogpaaDoor.Sp
