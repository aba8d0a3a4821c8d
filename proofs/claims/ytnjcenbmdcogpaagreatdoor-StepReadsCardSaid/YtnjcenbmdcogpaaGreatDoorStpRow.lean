import Derived.Test.YtnjcenbmdcogpaaGreatDoorStpMath
import Derived.Test.YtnjcenbmdcogpaaGreatDoorStpL
import Derived.Test.YtnjcenbmdcogpaaGreatDoorJoinB
import Derived.Test.YtnjcenbmdcogpaaGreatDoorFmtUint
import Derived.Test.YtnjcenbmdcogpaaGreatDoorAppendAny
import Derived.Lib.SmallJoins
/- A row of texts of the call's own beside a step's box: made, added, joined. -/
namespace Go.Proofs.YtnjcenbmdcogpaaGreatDoor.Sp
open Go Go.Lib Go.RowKit

def joinB (xs : List ByteArray) : ByteArray := ⟨(Lib.join (xs.map (·.data.toList)) [32]).toArray⟩
theorem join_jn : ∀ ws : List Bs, Lib.join ws [32] = jn ws
  | [] => rfl
  | [a] => Lib.join_one a [32]
  | a :: b :: r => by
    have ih := join_jn (b :: r)
    rw [Lib.join_cons] at ih ⊢
    show _ = a ++ 32 :: jn (b :: r)
    rw [← ih]
    simp [Lib.joinTail]
theorem joinB_eq (xs : List ByteArray) : joinB xs = ⟨(jn (xs.map (·.data.toList))).toArray⟩ := by unfold joinB; rw [join_jn]
theorem join_own (base : Nat) (v : Value) (xs : List ByteArray) (W : World) (hown : W.ownsRow base 9 1 v xs.length (xs.map Value.string)) (h0 : 0 < xs.length) (hl : xs.length ≤ 1000) (hs : (jn (xs.map (·.data.toList))).length ≤ 1000000) :
    Calls Tryz.prog 32 #[v, .string ⟨#[32]⟩] W fun e w' => e = .returned (.string ⟨(jn (xs.map (·.data.toList))).toArray⟩) ∧ Below W.heap.size W w' := by
  rcases hown.2 with ⟨_, hx⟩ | ⟨g, cap, cur, rfl, hbg, hg, hnc, hcm, hcs, htake⟩
  · have : xs = [] := by simpa using hx
    subst this; simp at h0
  · have hc : ∀ (j : Nat) x, xs[j]? = some x → W.cell? ⟨g, 0 + j, none⟩ = some (.string x) := fun j x h => by
      have := hown.cells (g := g) rfl j (.string x) (by rw [List.getElem?_map, h]; rfl)
      rw [← this]
      unfold Addr.add
      by_cases h0 : j = 0 <;> simp [h0]
    rw [← joinB_eq]
    exact Any.strings_Join Sha.laysJoin Sha.extraJoin g 0 cap xs ⟨#[32]⟩ W hc (Array.getElem?_eq_some_iff.1 hg).1 (by omega) hnc (by
      have e : (joinB xs).size = (jn (xs.map (·.data.toList))).length := by rw [joinB_eq]; rfl
      show (Lib.join _ [32]).length ≤ _
      rw [join_jn]; omega)
theorem itoa_nn {n : Int} (h : 0 ≤ n) : Lib.itoa n = decDigits n.toNat := by unfold Lib.itoa; rw [if_neg (by omega)]

/-- a step's box at the call's start, and the table -/
structure LX (w : World) (x : St) (W : World) : Prop where
  b : Below w.heap.size w W
  lt : w.heap.size < W.heap.size
  box : W.heap[w.heap.size]? = some (.cells x.cells 26 (0, 0))
  t0 : Dec.Tab w
theorem tab_global : Tryz.prog.globalNamed "internal/strconv.uint64pow10" = some 1 := by kernel_rfl
theorem tabB {w w' : World} (h : Dec.Tab w) (hb : Below w.heap.size w w') : Dec.Tab w' := Go.Joins.tab_stays tab_global h hb (Nat.le_refl _)
theorem LX.tab {w W : World} {x : St} (h : LX w x W) : Dec.Tab W := tabB h.t0 h.b
theorem LX.start {w W : World} {x : St} (ht : Dec.Tab w) (hb : Below (w.alloc (.cells x.cells 26)).heap.size (w.alloc (.cells x.cells 26)) W) : LX w x W := by
  have h0 : Below w.heap.size w (w.alloc (.cells x.cells 26)) := (Below.refl _ _).alloc (Nat.le_refl _) _
  have h1 : Below w.heap.size w W := h0.trans (hb.mono (by simp))
  exact ⟨h1, by have := hb.size; simp at this; omega, (hb.block _ (by simp)).trans (heap_alloc_new _ _), ht⟩
theorem LX.below {w W W' : World} {x : St} (h : LX w x W) (hb : Below W.heap.size W W') : LX w x W' :=
  ⟨h.b.trans (hb.mono h.b.size), Nat.lt_of_lt_of_le h.lt hb.size, (hb.block _ h.lt).trans h.box, h.t0⟩
theorem LX.drew {w W : World} {x : St} (h : LX w x W) : LX w x W.drew := h.below (Below.refl _ _).drew
theorem LX.cells {w W : World} {x : St} (h : LX w x W) : W.cell? ⟨w.heap.size, 0, none⟩ = some (.int .i64 x.k) ∧ W.cell? ⟨w.heap.size, 1, none⟩ = some (.int .i64 x.sd) ∧ W.cell? ⟨w.heap.size, 2, none⟩ = some (.int .i64 x.n) ∧ W.cell? ⟨w.heap.size, 3, none⟩ = some (.int .i64 x.c) ∧ W.cell? ⟨w.heap.size, 4, none⟩ = some (.int .i64 x.f) ∧ W.cell? ⟨w.heap.size, 6, none⟩ = some (.int .u64 x.t) ∧ W.cell? ⟨w.heap.size, 7, none⟩ = some (.string x.d) := by
  have c : ∀ i, W.cell? ⟨w.heap.size, i, none⟩ = x.cells[i]? := fun i => cell_of_row _ _ _ _ _ (0, 0) h.box
  exact ⟨c 0, c 1, c 2, c 3, c 4, c 6, c 7⟩
/-- .. and a row of texts of the call's own -/
structure LR (w : World) (x : St) (W : World) (v : Value) (xs : List ByteArray) : Prop where
  x : LX w x W
  r : W.ownsRow (w.heap.size + 1) 9 1 v xs.length (xs.map Value.string)
theorem LR.make {w W : World} {x : St} (h : LX w x W) (a : ByteArray) : LR w x (W.alloc (.cells #[.string a] 9)) (.slice (some ⟨W.heap.size, 0, none⟩) 1 1) [a] :=
  ⟨h.below ((Below.refl _ _).alloc (Nat.le_refl _) _), ⟨rfl, .inr ⟨W.heap.size, 1, #[.string a], rfl, by have := h.lt; omega, heap_alloc_new W _, Nat.le_refl _, by unfold maxLen; decide, rfl, rfl⟩⟩⟩
theorem LR.below {w W W' : World} {x : St} {v : Value} {xs : List ByteArray} (h : LR w x W v xs) (hb : Below W.heap.size W W') : LR w x W' v xs := ⟨h.x.below hb, own_below h.r hb⟩
theorem LX.grown {w W W' : World} {x : St} {v : Value} {n : Nat} {xs : List Value} (h : LX w x W) (hr : W.ownsRow (w.heap.size + 1) 9 1 v n xs) (hg : W.grownBy W' v.ownBlock) : LX w x W' := by
  have hb : Below w.heap.size w W' := h.b.grown hg h.b.size (fun k hk => by have := own_ge hr k hk; omega)
  have hs : w.heap.size < W'.heap.size := Nat.lt_of_lt_of_le h.lt hg.size
  refine ⟨hb, hs, (hg.block _ h.lt fun e => ?_).trans h.box, h.t0⟩
  have := own_ge hr _ e.symm; omega
end Go.Proofs.YtnjcenbmdcogpaaGreatDoor.Sp
