/- sort.Slice over a row of elements of k cells, its 'less' may lay blocks. -/
import Derived.Test.YtmdjhcpafjgigaaStFPdq
import Derived.Shelf.GgSortFunc.SmallK
import Derived.Shelf.SlSortFuncK.BreakPatternsK
import Derived.Shelf.SlSortFuncK.ComposeK
namespace Go.Proofs.Ytmdjhcpafjgigaa.St
open Go Go.RowKit Go.Shelf Go.Lib Go.Sort Go.Proofs
variable {P : Program} {ρ : Ren} {α : Type} [Inhabited α]

theorem setCells_off (blk : Nat) : ∀ (vs : List Value) (o : Nat) (W : World) (b : Nat), b ≠ blk → (W.setCells blk o vs).heap[b]? = W.heap[b]?
  | [], _, _, _, _ => rfl
  | v :: r, o, W, b, h => by
    rw [World.setCells, setCells_off blk r (o + 1) _ b h, Below.heap_setCell _ _ _ _ h]
theorem setCells_same (blk : Nat) : ∀ (vs : List Value) (o : Nat) (W : World), (W.setCells blk o vs).os = W.os ∧ (W.setCells blk o vs).tape = W.tape ∧ (W.setCells blk o vs).output = W.output
  | [], _, _ => ⟨rfl, rfl, rfl⟩
  | v :: r, o, W => by
    rw [World.setCells]
    exact setCells_same blk r (o + 1) _

/-- In W the row lies as d; what lies below B and is not the row stands as it stood in w0. -/
structure RowT (enc : α → List Value) (k : Nat) (w0 : World) (B blk off size : Nat) (d : Array α) (W : World) : Prop where
  sz : d.size = size
  holds : HoldsK enc k W blk off d
  base : B ≤ W.heap.size
  os : W.os = w0.os
  tape : W.tape = w0.tape
  output : W.output = w0.output
  rest : ∀ b, b < B → b ≠ blk → W.heap[b]? = w0.heap[b]?

theorem holdsK_of_block {enc : α → List Value} {k : Nat} {W w : World} {blk off : Nat} {d : Array α} (h : HoldsK enc k W blk off d) (hb : w.heap[blk]? = W.heap[blk]?) : HoldsK enc k w blk off d := fun j hj =>
  ⟨(World.cell?_of_block (w := W) (a := ⟨blk, off + j, none⟩) hb).trans (h j hj).1, (World.frozen?_of_block (w := W) (a := ⟨blk, off + j, none⟩) hb).trans (h j hj).2⟩
theorem rowT_play (enc : α → List Value) (k : Nat) (w0 : World) (B blk off size : Nat) (hblk : blk < B) : Play B size (RowT enc k w0 B blk off size) where
  base := fun h => h.base
  size := fun h => h.sz
  keep := fun {d W w} h hb => ⟨h.sz, holdsK_of_block h.holds (hb.block _ (Nat.lt_of_lt_of_le hblk h.base)), Nat.le_trans h.base hb.size, hb.os.trans h.os, hb.tape.trans h.tape, hb.output.trans h.output,
    fun b hB hn => (hb.block b (Nat.lt_of_lt_of_le hB h.base)).trans (h.rest b hB hn)⟩
  set := fun {d W} h a v ha => ⟨h.sz, holdsK_of_block h.holds (Below.heap_setCell _ _ _ _ (by omega)), by simpa using h.base, h.os, h.tape, h.output,
    fun b hB hn => (Below.heap_setCell _ _ _ _ (by omega)).trans (h.rest b hB hn)⟩
theorem RowT.swap {enc : α → List Value} {k : Nat} {w0 W : World} {B blk off size : Nat} {d : Array α} (h : RowT enc k w0 B blk off size d W) (hk : ∀ x, (enc x).length = k) (i j : Nat) (hi : i < size) (hj : j < size) :
    RowT enc k w0 B blk off size (swp d i j) ((W.setCells blk (off + i * k) (enc d[j]!)).setCells blk (off + j * k) (enc d[i]!)) where
  sz := (size_swp _ _ _).trans h.sz
  holds := by
    have e := putRowK_swp enc k hk W blk off d i j (by rw [h.sz]; exact hi) (by rw [h.sz]; exact hj)
    rw [putRowK_self enc k W blk off d h.holds] at e
    rw [e]
    exact holdsK_putRowK enc k W blk off d (swp d i j) h.holds (size_swp _ _ _)
  base := by rw [size_setCells, size_setCells]; exact h.base
  os := ((setCells_same _ _ _ _).1.trans (setCells_same _ _ _ _).1).trans h.os
  tape := ((setCells_same _ _ _ _).2.1.trans (setCells_same _ _ _ _).2.1).trans h.tape
  output := ((setCells_same _ _ _ _).2.2.trans (setCells_same _ _ _ _).2.2).trans h.output
  rest := fun b hB hn => by rw [setCells_off _ _ _ _ b hn, setCells_off _ _ _ _ b hn]; exact h.rest b hB hn
theorem sortWorldK_off (enc : α → List Value) (k : Nat) (W : World) (blk off n : Nat) (d : Array α) (os : Array Obj) (b : Nat) (hb : b < W.heap.size) (hn : b ≠ blk) : (sortWorldK enc k W blk off n d os).heap[b]? = W.heap[b]? := by
  unfold sortWorldK
  rw [heap_grow_old _ _ (by rw [size_putRowK]; exact hb)]
  unfold putRowK putRow mapBlock
  simp only [Array.getElem?_modify]
  rw [if_neg (by omega)]
  rfl
/-- What the shelf says by an equation, said by a state. -/
theorem RowT.of_sortWorld {enc : α → List Value} {k : Nat} {w0 W w : World} {B blk off size : Nat} {d d' : Array α} (h : RowT enc k w0 B blk off size d W) (hblk : blk < B) (hs : d'.size = d.size) (hw : ∃ n os, w = sortWorldK enc k W blk off n d' os) :
    RowT enc k w0 B blk off size d' w ∧ Up B W w := by
  obtain ⟨n, os, rfl⟩ := hw
  have hb : blk < W.heap.size := Nat.lt_of_lt_of_le hblk h.base
  have hsz : W.heap.size ≤ (sortWorldK enc k W blk off n d' os).heap.size := SWK.le (⟨n, os, rfl⟩ : SWK enc k W blk off d' _)
  exact ⟨⟨hs.trans h.sz, holdsK_sortWorldK enc k W blk off n d d' os hb h.holds hs, Nat.le_trans h.base hsz, h.os, h.tape, h.output,
    fun b hB hn => (sortWorldK_off enc k W blk off n d' os b (Nat.lt_of_lt_of_le hB h.base) hn).trans (h.rest b hB hn)⟩,
    hsz, fun b hB hb => sortWorldK_off enc k W blk off n d' os b hb (by omega)⟩

set_option maxHeartbeats 2000000 in
/-- sort.Slice at two elements or more. -/
theorem slice_any (L : LaysGg.n6 P ρ) (t e : TypeId) (i ie : TypeInfo) (hi : P.info? t = some i) (hd : i.desc = .slice e) (hpk : P.packed t = false) (hie : P.info? e = some ie) (ke : Nat) (hke : ∀ w, (Extern.Rtype.kind e).run P w = .ok ke w)
    (enc : α → List Value) (k : Nat) (hk : ∀ x, (enc x).length = k) (hs1 : ie.size = k) (hagg : ∀ w, (isAgg e).run P w = .ok true w) (h1 : ∀ x, ∀ v ∈ enc x, v.oneCell' = true) (lt : α → α → Bool) (hO : SWO lt) (g : Nat) (lb : Array Value)
    (eg : ∀ args w, (callFunc g args).run P w = .ok (.enter g args) w) (blk off c : Nat) (d : Array α) (h2 : 2 ≤ d.size) (hsz : d.size < 4611686018427387904)
    (f : Nat) (hf : P.funcs.findIdx? (·.name == "internal/reflectlite" ++ ".Swapper$" ++ toString (swapperK d.size ie ke)) = some f)
    (gS : Bool) (hx : ∀ args W, (callFunc f args).run P W = ((Extern.ReflectliteSwapper.swap gS args).run P W).andThen fun v w' => .ok (.value v) w')
    (w : World) (hH : HoldsK enc k w blk off d) (hblk : blk < w.heap.size)
    (hless : ∀ (d' : Array α) (W : World), RowT enc k w w.heap.size blk off d.size d' W → ∀ i j : Nat, i < d.size → j < d.size → Calls P g (#[.int .i64 i, .int .i64 j] ++ lb) W fun e w' => e = .returned (.bool (lt d'[i]! d'[j]!)) ∧ RowKit.Below W.heap.size W w') :
    Calls P (ρ.f 6) #[.iface t (.slice (some ⟨blk, off, none⟩) d.size c), .func (.func g) #[] lb] w fun e w' =>
      e = .returned (.tuple #[]) ∧ ∃ d', PermIn 0 d.size d d' ∧ SortedIn lt 0 d.size d' ∧ RowT enc k w w.heap.size blk off d.size d' w' := by
  have hlim : Lib.bitLen d.size < 4611686018427387904 := Nat.lt_of_le_of_lt (Lib.bitLen_le d.size 62 (by omega) (by omega)) (by omega)
  have hB : sliceBound P e ie ke (some ⟨blk, off, none⟩) d.size c = #[.slice (some ⟨blk, off, none⟩) d.size c, typeHandle P e] := by
    unfold sliceBound; rw [if_neg (swapperK_gt _ _ _ h2)]
  have sw := swapSwapsK_of_literal (P := P) gS f hx e ie hie enc k hk hs1 hagg h1 blk off d.size c
  have F : FuncFam P lt w.heap.size d.size (RowT enc k w w.heap.size blk off d.size) g lb f #[.slice (some ⟨blk, off, none⟩) d.size c, typeHandle P e] :=
    { play := rowT_play enc k w w.heap.size blk off d.size hblk
      small := hsz
      eg := eg
      less := fun {d' W} h i j hi hj => hless d' W h i j hi hj
      swap := fun {d' W} h i j hi hj => ⟨_, sw W d' h.holds h.sz i j hi hj, h.swap hk i j hi hj, by rw [size_setCells, size_setCells]; exact Nat.le_refl _, fun b hb _ => by rw [setCells_off _ _ _ _ b (by omega), setCells_off _ _ _ _ b (by omega)]⟩ }
  have hT0 : RowT enc k w w.heap.size blk off d.size d w := ⟨rfl, hH, Nat.le_refl _, rfl, rfl, rfl, fun _ _ _ => rfl⟩
  have hT : RowT enc k w w.heap.size blk off d.size d (sliceWorld P ρ t (some ⟨blk, off, none⟩) d.size c w) := by
    unfold sliceWorld
    exact F.play.keep hT0 (((Below.refl _ _).alloc (Nat.le_refl _) _).alloc (by simp) _)
  have hp := pdq_all (P := P) (ρ := ρ) { L with } lt hO w.heap.size d.size _ g lb f _ F
    (fun d' W a b h hab hb => (Any.breakPatterns_func_cells_w (P := P) (ρ := ρ) { L with } enc k hk (.func g) #[] lb f _ blk off a b d' W (by rw [h.sz]; exact sw) h.holds (Nat.lt_of_lt_of_le hblk h.base) hab (by rw [h.sz]; exact hb) (by rw [h.sz]; exact hsz)).mono
      fun e w' ⟨he, hw⟩ => ⟨he, h.of_sortWorld hblk (step_break d' hab (by rw [h.sz]; exact hb) True).1 hw⟩)
    (fun d' W a b h hab hb => (Any.reverseRange_func_cells_w (P := P) (ρ := ρ) { L with } enc k hk (.func g) #[] lb f _ blk off a b d' W (by rw [h.sz]; exact sw) h.holds (Nat.lt_of_lt_of_le hblk h.base) hab (by rw [h.sz]; exact hb) (by rw [h.sz]; exact hsz)).mono
      fun e w' ⟨he, hw⟩ => ⟨he, h.of_sortWorld hblk (reverseRange_holds d' a b hab (by rw [h.sz]; exact hb)).1 hw⟩)
    (d.size + 1) 0 d.size (Lib.bitLen d.size) d _ (by omega) hT (Nat.zero_le _) (Nat.le_refl _) hlim (Or.inl rfl)
  have hsort := pdq_sorts lt hO d 0 d.size (Lib.bitLen d.size) true true (Nat.zero_le _) (Nat.le_refl _) (Or.inl rfl)
  refine (Any.sort_Slice_of_pdq L t e i ie hi hd hpk hie ke hke _ d.size c hsz f hf (.func g) #[] lb w (fun w' => RowT enc k w w.heap.size blk off d.size (Sort.pdq lt d 0 d.size (Lib.bitLen d.size) true true) w') ?_).mono ?_
  · rw [hB]
    exact hp.mono fun e w' ⟨he, h1, _⟩ => ⟨he, h1⟩
  · rintro e w' ⟨rfl, h⟩
    exact ⟨rfl, _, hsort.1, hsort.2, h⟩
end Go.Proofs.Ytmdjhcpafjgigaa.St
