/- A world in memory, as it is made: an end, a book, a pool. -/
import Derived.Test.YthamhdfkhhfmmabConfPlainRow
import Derived.MapKept
import Derived.Deep.RegionHeld3
import Derived.Deep.WholeRow
import Derived.Deep.Cut
import Derived.Deep.CutBlock
namespace Go.Proofs.Ythamhdfkhhfmmab.Wd
open Go Go.RowKit Conf

abbrev TLn : Nat := 87
abbrev TLg : Nat := 78
abbrev TWd : Nat := 53
abbrev TCf : Nat := 35
theorem heap_at (w : World) (o : Obj) (n : Nat) (h : n = w.heap.size) : (w.alloc o).heap[n]? = some o := by rw [h]; exact heap_alloc_new w o
theorem set_at {V : World} {b i : Nat} {t : TypeId} {q : Nat × Nat} {cs : Array Value} (v : Value) (h : V.heap[b]? = some (.cells cs t q)) : (V.setCell ⟨b, i, none⟩ v).heap[b]? = some (.cells (cs.setIfInBounds i v) t q) := by
  simp [World.setCell, Array.getElem?_modify, h]
theorem lt_of {w : World} {g : Nat} {o : Obj} (h : w.heap[g]? = some o) : g < w.heap.size := (Array.getElem?_eq_some_iff.1 h).1
/-- an end as it is made lies in block E -/
structure LnIs (V : World) (E M N : Nat) (sd : Int) (o : Bool) : Prop where
  box : V.heap[E]? = some (.cells #[.int .i64 0, .int .i64 sd, .bool o, .bool false, .int .u64 1, .int .u64 1, .int .u64 1, .map (some M), .map (some N)] TLn (0, 0))
  com : V.heap[M]? = some (.map #[] 0)
theorem LnIs.below {V V' : World} {E M N : Nat} {sd : Int} {o : Bool} (h : LnIs V E M N sd o) (hb : Below V.heap.size V V') : LnIs V' E M N sd o :=
  ⟨(hb.block _ (lt_of h.box)).trans h.box, (hb.block _ (lt_of h.com)).trans h.com⟩
set_option maxRecDepth 20000 in
theorem line_new (sd : Int) (o : Bool) (hs : sd = 0 ∨ sd = 1) (W : World) :
    Calls Try.prog 24 #[.int .i64 0, .int .i64 sd, .bool o] W fun e w' => (∃ E M N, e = .returned (.tuple #[.pointer (some ⟨E, 0, none⟩), .int .i64 0]) ∧ LnIs w' E M N sd o ∧ W.heap.size ≤ E ∧ W.heap.size ≤ M) ∧ Below W.heap.size W w' := by
  have hmm := @run_makeMap Try.prog
  rcases hs with rfl | rfl
  all_goals
    go_enter Try.func24, Try.ntmps24
    go_wp2
    go_ret2
    refine ⟨⟨W.heap.size + 2, W.heap.size, W.heap.size + 1, rfl, ⟨?_, ?_⟩, by omega, Nat.le_refl _⟩, (((Below.refl _ _).alloc (Nat.le_refl _) _).alloc (by simp) _).alloc (by simp; omega) _⟩
    · exact heap_at _ _ _ (by simp)
    · rw [Below.heap_alloc _ _ _ (by simp; omega), Below.heap_alloc _ _ _ (by simp)]
      exact heap_alloc_new W _
set_option maxRecDepth 100000 in
set_option maxHeartbeats 1000000 in
theorem pool_new (W : World) : Calls Try.prog 23 #[.int .i64 8] W fun e w' => e = .returned (.tuple #[.pointer (some ⟨W.heap.size, 0, none⟩), .int .i64 0]) ∧ Below W.heap.size W w' := by
  obtain ⟨Z, hZs, hZ⟩ : ∃ Z : Array Value, Z.size = 131 ∧ (zeroValue 101).run Try.prog W = .ok (.agg Z) W :=
    ⟨(List.replicate 32 [Value.int .i64 0, .int .i64 0, .int .u64 0, .slice none 0 0]).flatten.toArray ++ #[.int .i64 0, .int .i64 0, .int .i64 0], by simp, by kernel_rfl⟩
  go_enter Try.func23, Try.ntmps23
  go_wp2
  go_ret2
  exact ⟨rfl, (Below.refl _ _).alloc (Nat.le_refl _) _⟩
theorem infoU : (Try.prog.info? 22).map (fun i => (i.zero, i.size, i.bytes)) = some (some (.int .u64 0), 1, 8) := by kernel_rfl
set_option maxRecDepth 20000 in
set_option maxHeartbeats 1000000 in
theorem clone_two (g cap : Nat) (x y : Int) (W : World) (h0 : W.cell? ⟨g, 0, none⟩ = some (.int .u64 x)) (h1 : W.cell? ⟨g, 1, none⟩ = some (.int .u64 y)) : Calls Try.prog 26 #[.slice (some ⟨g, 0, none⟩) 2 cap] W fun e w' => (∃ A c, e = .returned (.slice A 2 c)) ∧ Below W.heap.size W w' := by
  obtain ⟨i0, hi, hz0, hz1, hz2⟩ := info_parts infoU
  have he : (binOp .eql 70 (.slice (some ⟨g, 0, none⟩) 2 cap) (.slice none 0 0)).run Try.prog W = .ok (.bool false) W := by kernel_rfl
  have b1 := (Below.refl W.heap.size W).alloc (Nat.le_refl _) (.cells #[] 22)
  have hE : (W.alloc (.cells #[] 22)).ownsRow W.heap.size 22 1 (.slice (some ⟨W.heap.size, 0, none⟩) 0 0) 0 [] := ⟨rfl, Or.inr ⟨W.heap.size, 0, #[], rfl, Nat.le_refl _, heap_alloc_new W _, Nat.le_refl _, by decide, rfl, rfl⟩⟩
  have hc : ∀ j u, [Value.int .u64 x, Value.int .u64 y][j]? = some u → (W.alloc (.cells #[] 22)).cell? ((⟨g, 0, none⟩ : Addr).add j) = some u := by
    intro j u h
    have g1 := (b1.cell (p := ⟨g, 0, none⟩) (World.block_lt_of_cell? W _ h0)).trans h0
    have g2 := (b1.cell (p := ⟨g, 1, none⟩) (World.block_lt_of_cell? W _ h1)).trans h1
    match j, h with
    | 0, h => rw [← h]; exact g1
    | 1, h => rw [← h]; exact g2
  have HC := Lib.hid hc
  have HE := Lib.hid hE
  have HB := Lib.hid b1
  clear b1 hE hc h0 h1
  go_enter Try.func26, Try.ntmps26
  go_wp2_with (at_builtin; refine wpList_append_own _ rfl _ _ 70 rfl W.heap.size 22 i0 (.int .u64 0) 1 8 Try.underlying70 hi hz0 hz1 hz2 rfl (by decide) _ _ _ rfl HE.out ⟨g, 0, none⟩ 2 cap [.int .u64 x, .int .u64 y] rfl rfl HC.out (by intro u hu; simp at hu; rcases hu with rfl | rfl <;> rfl) (by decide) (by decide) (by simp) ?_; intro v1 w2 hown hg _; obtain ⟨A2, c2, rfl⟩ := own_form hown; have HR := Lib.hid (HB.out.grown hg (by simp) (own_ge HE.out)); clear hown hg)
  go_ret
  exact ⟨⟨_, _, rfl⟩, HR.out⟩
set_option maxRecDepth 20000 in
theorem nonce_new (g cap : Nat) (x y : Int) (W : World) (h0 : W.cell? ⟨g, 0, none⟩ = some (.int .u64 x)) (h1 : W.cell? ⟨g, 1, none⟩ = some (.int .u64 y)) : Calls Try.prog 22 #[.slice (some ⟨g, 0, none⟩) 2 cap] W fun e w' => (∃ P, e = .returned (.tuple #[.pointer (some ⟨P, 0, none⟩), .int .i64 0])) ∧ Below W.heap.size W w' := by
  have HC := Lib.hid (clone_two g cap x y W h0 h1)
  clear h0 h1
  go_enter Try.func22, Try.ntmps22
  go_wp2_with fail
  refine HC.out.mono ?_
  rintro _ w1 ⟨⟨A, c, rfl⟩, b1⟩
  have HB := Lib.hid b1
  clear b1 HC
  go_wp2
  go_ret2
  exact ⟨⟨_, rfl⟩, HB.out.alloc HB.out.size _⟩
end Go.Proofs.Ythamhdfkhhfmmab.Wd
