/- A row of elements of k cells as a state of a sort. -/
import Derived.Test.YtpkkomifenlkaaaStBase
import Derived.Shelf.GgSortFunc.SmallK
import Derived.Shelf.SlSortFuncK.BreakPatternsK
namespace Go.Proofs.Ytpkkomifenlkaaa.St
open Go Go.RowKit Go.Shelf Go.Lib Go.Sort Go.Proofs
variable {P : Program} {ρ : Ren} {α : Type} [Inhabited α]

theorem setCells_off (blk : Nat) : ∀ (vs : List Value) (o : Nat) (W : World) (b : Nat), b ≠ blk → (W.setCells blk o vs).heap[b]? = W.heap[b]?
  | [], _, _, _, _ => rfl
  | v :: r, o, W, b, h => by
    rw [World.setCells, setCells_off blk r (o + 1) _ b h, Below.heap_setCell _ _ _ _ h]
theorem setCells_same (blk : Nat) : ∀ (vs : List Value) (o : Nat) (W : World), (W.setCells blk o vs).os = W.os ∧ (W.setCells blk o vs).tape = W.tape ∧ (W.setCells blk o vs).output = W.output
  | [], _, _ => ⟨rfl, rfl, rfl⟩
  | v :: r, o, W => by
    rw [World.setCells]
    exact setCells_same blk r (o + 1) _

/-- In W the row lies as d; what lies below B and is not the row stands as it stood in w0. -/
structure RowT (enc : α → List Value) (k : Nat) (w0 : World) (B blk off size : Nat) (d : Array α) (W : World) : Prop where
  sz : d.size = size
  holds : HoldsK enc k W blk off d
  base : B ≤ W.heap.size
  os : W.os = w0.os
  tape : W.tape = w0.tape
  output : W.output = w0.output
  rest : ∀ b, b < B → b ≠ blk → W.heap[b]? = w0.heap[b]?

theorem holdsK_of_block {enc : α → List Value} {k : Nat} {W w : World} {blk off : Nat} {d : Array α} (h : HoldsK enc k W blk off d) (hb : w.heap[blk]? = W.heap[blk]?) : HoldsK enc k w blk off d := fun j hj =>
  ⟨(World.cell?_of_block (w := W) (a := ⟨blk, off + j, none⟩) hb).trans (h j hj).1, (World.frozen?_of_block (w := W) (a := ⟨blk, off + j, none⟩) hb).trans (h j hj).2⟩
theorem rowT_play (enc : α → List Value) (k : Nat) (w0 : World) (B blk off size : Nat) (hblk : blk < B) : Play B size (RowT enc k w0 B blk off size) where
  base := fun h => h.base
  size := fun h => h.sz
  keep := fun {d W w} h hb => ⟨h.sz, holdsK_of_block h.holds (hb.block _ (Nat.lt_of_lt_of_le hblk h.base)), Nat.le_trans h.base hb.size, hb.os.trans h.os, hb.tape.trans h.tape, hb.output.trans h.output,
    fun b hB hn => (hb.block b (Nat.lt_of_lt_of_le hB h.base)).trans (h.rest b hB hn)⟩
  set := fun {d W} h a v ha => ⟨h.sz, holdsK_of_block h.holds (Below.heap_setCell _ _ _ _ (by omega)), by simpa using h.base, h.os, h.tape, h.output,
    fun b hB hn => (Below.heap_setCell _ _ _ _ (by omega)).trans (h.rest b hB hn)⟩
theorem RowT.swap {enc : α → List Value} {k : Nat} {w0 W : World} {B blk off size : Nat} {d : Array α} (h : RowT enc k w0 B blk off size d W) (hk : ∀ x, (enc x).length = k) (i j : Nat) (hi : i < size) (hj : j < size) :
    RowT enc k w0 B blk off size (swp d i j) ((W.setCells blk (off + i * k) (enc d[j]!)).setCells blk (off + j * k) (enc d[i]!)) where
  sz := (size_swp _ _ _).trans h.sz
  holds := by
    have e := putRowK_swp enc k hk W blk off d i j (by rw [h.sz]; exact hi) (by rw [h.sz]; exact hj)
    rw [putRowK_self enc k W blk off d h.holds] at e
    rw [e]
    exact holdsK_putRowK enc k W blk off d (swp d i j) h.holds (size_swp _ _ _)
  base := by rw [size_setCells, size_setCells]; exact h.base
  os := ((setCells_same _ _ _ _).1.trans (setCells_same _ _ _ _).1).trans h.os
  tape := ((setCells_same _ _ _ _).2.1.trans (setCells_same _ _ _ _).2.1).trans h.tape
  output := ((setCells_same _ _ _ _).2.2.trans (setCells_same _ _ _ _).2.2).trans h.output
  rest := fun b hB hn => by rw [setCells_off _ _ _ _ b hn, setCells_off _ _ _ _ b hn]; exact h.rest b hB hn
theorem sortWorldK_off (enc : α → List Value) (k : Nat) (W : World) (blk off n : Nat) (d : Array α) (os : Array Obj) (b : Nat) (hb : b < W.heap.size) (hn : b ≠ blk) : (sortWorldK enc k W blk off n d os).heap[b]? = W.heap[b]? := by
  unfold sortWorldK
  rw [heap_grow_old _ _ (by rw [size_putRowK]; exact hb)]
  unfold putRowK putRow mapBlock
  simp only [Array.getElem?_modify]
  rw [if_neg (by omega)]
  rfl
/-- What the shelf says by an equation, said by a state. -/
theorem RowT.of_sortWorld {enc : α → List Value} {k : Nat} {w0 W w : World} {B blk off size : Nat} {d d' : Array α} (h : RowT enc k w0 B blk off size d W) (hblk : blk < B) (hs : d'.size = d.size) (hw : ∃ n os, w = sortWorldK enc k W blk off n d' os) :
    RowT enc k w0 B blk off size d' w ∧ Up B W w := by
  obtain ⟨n, os, rfl⟩ := hw
  have hb : blk < W.heap.size := Nat.lt_of_lt_of_le hblk h.base
  have hsz : W.heap.size ≤ (sortWorldK enc k W blk off n d' os).heap.size := SWK.le (⟨n, os, rfl⟩ : SWK enc k W blk off d' _)
  exact ⟨⟨hs.trans h.sz, holdsK_sortWorldK enc k W blk off n d d' os hb h.holds hs, Nat.le_trans h.base hsz, h.os, h.tape, h.output,
    fun b hB hn => (sortWorldK_off enc k W blk off n d' os b (Nat.lt_of_lt_of_le hB h.base) hn).trans (h.rest b hB hn)⟩,
    hsz, fun b hB hb => sortWorldK_off enc k W blk off n d' os b hb (by omega)⟩
end Go.Proofs.Ytpkkomifenlkaaa.St
