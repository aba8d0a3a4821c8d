/- A pool of transactions: Take. -/
import Derived.Test.YtjjomlideieofaaPoolAdd2
namespace Go.Proofs.Ytjjomlideieofaa.Msg
open Go Go.RowKit

/-- Transactions one behind the other. -/
def tcells (ts : List T4) : List Value := ts.flatMap fun t => t.cells.toList
theorem tcells_snoc (ts : List T4) (t : T4) : tcells (ts ++ [t]) = tcells ts ++ t.cells.toList := by simp [tcells]
theorem tcells_app (xs ys : List T4) : tcells (xs ++ ys) = tcells xs ++ tcells ys := by simp [tcells]
theorem tcells_len (ts : List T4) : (tcells ts).length = ts.length * 4 := by
  induction ts with
  | nil => rfl
  | cons t ts ih =>
    show (t.cells.toList ++ tcells ts).length = _
    rw [List.length_append, ih]
    simp [T4.cells]
    omega
theorem tcells_at : ∀ (ts : List T4) (i j : Nat) (h : i < ts.length), j < 4 → (tcells ts)[i * 4 + j]? = (ts[i].cells)[j]?
  | [], i, j, h, _ => absurd h (by simp)
  | t :: ts, 0, j, _, hj => by
    show (t.cells.toList ++ tcells ts)[0 * 4 + j]? = _
    rw [List.getElem?_append_left (by simp [T4.cells]; omega)]
    simp
  | t :: ts, i + 1, j, h, hj => by
    show (t.cells.toList ++ tcells ts)[(i + 1) * 4 + j]? = _
    rw [List.getElem?_append_right (by simp [T4.cells]; omega)]
    have := tcells_at ts i j (by simpa using h) hj
    rw [show (i + 1) * 4 + j - t.cells.toList.length = i * 4 + j from by simp [T4.cells]; omega, this]
    simp
theorem tcells_one (ts : List T4) : ∀ u ∈ tcells ts, u.oneCell' = true := by
  intro u hu
  simp only [tcells, List.mem_flatMap] at hu
  obtain ⟨m, _, hu⟩ := hu
  simp [T4.cells] at hu
  rcases hu with rfl | rfl | rfl | rfl <;> rfl
theorem cells4_one (t : T4) : ∀ u ∈ t.cells.toList, u.oneCell' = true := by
  intro u hu
  simp [T4.cells] at hu
  rcases hu with rfl | rfl | rfl | rfl <;> rfl
theorem cells4_new (w : World) (t : T4) (T : TypeId) : ∀ j u, (t.cells.toList)[j]? = some u → (w.alloc (.cells t.cells T)).cell? ((⟨w.heap.size, 0, none⟩ : Addr).add j) = some u := by
  intro j u hj
  have : (⟨w.heap.size, 0, none⟩ : Addr).add j = ⟨w.heap.size, j, none⟩ := by unfold Addr.add; by_cases h : j = 0 <;> simp [h]
  rw [this, cell_of_row _ _ _ _ _ (0, 0) (heap_alloc_new w _), ← Array.getElem?_toList]
  exact hj
theorem infoT : (Try.prog.info? 40).map (fun i => (i.zero, i.size, i.bytes)) = some (some (.agg #[.int .i64 0, .int .i64 0, .int .u64 0, .slice none 0 0]), 4, 48) := by kernel_rfl

theorem Pl.pop {W : World} {base g first : Nat} {most : Int} {t : T4} {ts : List T4} (h : Pl W base g first most (t :: ts)) :
    Pl ((((((W.setCell ⟨g, first * 4, none⟩ (.int .i64 0)).setCell ⟨g, first * 4 + 1, none⟩ (.int .i64 0)).setCell ⟨g, first * 4 + 2, none⟩ (.int .u64 0)).setCell ⟨g, first * 4 + 3, none⟩ (.slice none 0 0)).setCell ⟨g, 128, none⟩ (.int .i64 (((first + 1) % 32 : Nat) : Int))).setCell ⟨g, 129, none⟩ (.int .i64 (ts.length : Int))) base g ((first + 1) % 32) most ts ∧
    KM W ((((((W.setCell ⟨g, first * 4, none⟩ (.int .i64 0)).setCell ⟨g, first * 4 + 1, none⟩ (.int .i64 0)).setCell ⟨g, first * 4 + 2, none⟩ (.int .u64 0)).setCell ⟨g, first * 4 + 3, none⟩ (.slice none 0 0)).setCell ⟨g, 128, none⟩ (.int .i64 (((first + 1) % 32 : Nat) : Int))).setCell ⟨g, 129, none⟩ (.int .i64 (ts.length : Int))) := by
  obtain ⟨cs, hb, hsz, h1, h2, h3, h4, h5⟩ := h.blk
  have b1 := set_pool (i := first * 4) (v := .int .i64 0) hb
  have b2 := set_pool (i := first * 4 + 1) (v := .int .i64 0) b1
  have b3 := set_pool (i := first * 4 + 2) (v := .int .u64 0) b2
  have b4 := set_pool (i := first * 4 + 3) (v := .slice none 0 0) b3
  have b5 := set_pool (i := 128) (v := .int .i64 (((first + 1) % 32 : Nat) : Int)) b4
  have b6 := set_pool (i := 129) (v := .int .i64 (ts.length : Int)) b5
  have k6 := km_pool (i := 129) (v := .int .i64 (ts.length : Int)) b5 (km_pool (i := 128) (v := .int .i64 (((first + 1) % 32 : Nat) : Int)) b4 (km_pool (i := first * 4 + 3) (v := .slice none 0 0) b3 (km_pool (i := first * 4 + 2) (v := .int .u64 0) b2 (km_pool (i := first * 4 + 1) (v := .int .i64 0) b1 (km_pool (i := first * 4) (v := .int .i64 0) hb (KM.refl W))))))
  have hlt := h.lt
  have hle := h.le
  simp only [List.length_cons] at hle
  refine ⟨⟨h.hg, by omega, by omega, ⟨_, b6, by simpa using hsz, ?_, ?_, ?_, ?_, ?_⟩, fun x hx => own_km (h.rows x (List.mem_cons_of_mem _ hx)) k6⟩, k6⟩
  · simp only [Array.getElem?_setIfInBounds, Array.size_setIfInBounds]
    rw [if_neg (by omega), if_pos trivial, if_pos (by omega)]
  · simp only [Array.getElem?_setIfInBounds, Array.size_setIfInBounds]
    rw [if_pos trivial, if_pos (by omega)]
  · simp only [Array.getElem?_setIfInBounds]
    rw [if_neg (by omega), if_neg (by omega), if_neg (by omega), if_neg (by omega), if_neg (by omega), if_neg (by omega)]
    exact h3
  · intro i hi j hj
    simp only [Array.getElem?_setIfInBounds]
    rw [if_neg (by omega), if_neg (by omega), if_neg (by omega), if_neg (by omega), if_neg (by omega), if_neg (by omega)]
    have := h4 (i + 1) (by simp; omega) j hj
    rw [show ((first + 1) % 32 + i) % 32 = (first + (i + 1)) % 32 by omega, this]
    simp
  · intro i hi
    have : i < ((((((cs.setIfInBounds (first * 4) (.int .i64 0)).setIfInBounds (first * 4 + 1) (.int .i64 0)).setIfInBounds (first * 4 + 2) (.int .u64 0)).setIfInBounds (first * 4 + 3) (.slice none 0 0)).setIfInBounds 128 (.int .i64 (((first + 1) % 32 : Nat) : Int))).setIfInBounds 129 (.int .i64 (ts.length : Int))).size := by simp; omega
    exact ⟨_, Array.getElem?_eq_getElem this⟩

/-- A pool beside an append to a row of transactions. -/
theorem Pl.append {W W2 : World} {base g first B k : Nat} {most : Int} {ts : List T4} {o : Obj} {l : Value} {xs : List Value} (h : Pl W base g first most ts) (hown : W.ownsRow B TT 4 l k xs) (hg : (W.alloc o).grownBy W2 l.ownBlock) : Pl W2 base g first most ts ∧ KM W W2 := by
  have hk : KM W W2 := (KM.alloc W o).trans (KM.grown (hown.alloc o) (by decide) hg)
  obtain ⟨cs, hb, _⟩ := h.blk
  refine ⟨h.same ((hg.block g (by simp; have := lt_blk hb; omega) fun heq => ?_).trans (Below.heap_alloc _ _ _ (lt_blk hb))) hk, hk⟩
  obtain ⟨cs', fr', ho⟩ := own_blk_type hown heq.symm hb
  injection ho with _ ht
  exact absurd ht (by decide)
theorem Only.append {w W W2 : World} {g B k : Nat} {o : Obj} {l : Value} {xs : List Value} (h : Only g w W) (hown : W.ownsRow B TT 4 l k xs) (hB : w.heap.size ≤ B) (hg : (W.alloc o).grownBy W2 l.ownBlock) : Only g w W2 := by
  refine ⟨Nat.le_trans h.1 (by have := hg.size; simp at this; omega), fun j a b => ?_⟩
  have hj : j < W.heap.size := Nat.lt_of_lt_of_le b h.1
  refine (hg.block j (by simp; omega) fun heq => ?_).trans ((Below.heap_alloc _ _ _ hj).trans (h.2 j a b))
  have := own_ge hown j heq.symm
  omega
theorem own_setTT {W : World} {g i B k : Nat} {l u : Value} {xs : List Value} {cs : Array Value} (h : W.ownsRow B TT 4 l k xs) (hb : W.heap[g]? = some (.cells cs TP (0, 0))) : (W.setCell ⟨g, i, none⟩ u).ownsRow B TT 4 l k xs := own_setblk h hb (by decide)
end Go.Proofs.Ytjjomlideieofaa.Msg
