/- sort.Slice over a row of elements of k cells, its 'less' may lay blocks. -/
import Derived.Test.YtlpnecmcncekcaaGreatStFPdq
import Derived.Test.YtlpnecmcncekcaaGreatStRowT
import Derived.Shelf.GgSortFunc.SmallK
import Derived.Shelf.SlSortFuncK.BreakPatternsK
import Derived.Shelf.SlSortFuncK.ComposeK
namespace Go.Proofs.YtlpnecmcncekcaaGreat.St
open Go Go.RowKit Go.Shelf Go.Lib Go.Sort Go.Proofs
variable {P : Program} {ρ : Ren} {α : Type} [Inhabited α]

set_option maxHeartbeats 2000000 in
/-- sort.Slice at two elements or more. -/
theorem slice_any (L : LaysGg.n6 P ρ) (t e : TypeId) (i ie : TypeInfo) (hi : P.info? t = some i) (hd : i.desc = .slice e) (hpk : P.packed t = false) (hie : P.info? e = some ie) (ke : Nat) (hke : ∀ w, (Extern.Rtype.kind e).run P w = .ok ke w)
    (enc : α → List Value) (k : Nat) (hk : ∀ x, (enc x).length = k) (hs1 : ie.size = k) (hagg : ∀ w, (isAgg e).run P w = .ok true w) (h1 : ∀ x, ∀ v ∈ enc x, v.oneCell' = true) (lt : α → α → Bool) (hO : SWO lt) (g : Nat) (lb : Array Value)
    (eg : ∀ args w, (callFunc g args).run P w = .ok (.enter g args) w) (blk off c : Nat) (d : Array α) (h2 : 2 ≤ d.size) (hsz : d.size < 4611686018427387904)
    (f : Nat) (hf : P.funcs.findIdx? (·.name == "internal/reflectlite" ++ ".Swapper$" ++ toString (swapperK d.size ie ke)) = some f)
    (gS : Bool) (hx : ∀ args W, (callFunc f args).run P W = ((Extern.ReflectliteSwapper.swap gS args).run P W).andThen fun v w' => .ok (.value v) w')
    (w : World) (hH : HoldsK enc k w blk off d) (hblk : blk < w.heap.size)
    (hless : ∀ (d' : Array α) (W : World), RowT enc k w w.heap.size blk off d.size d' W → ∀ i j : Nat, i < d.size → j < d.size → Calls P g (#[.int .i64 i, .int .i64 j] ++ lb) W fun e w' => e = .returned (.bool (lt d'[i]! d'[j]!)) ∧ RowKit.Below W.heap.size W w') :
    Calls P (ρ.f 6) #[.iface t (.slice (some ⟨blk, off, none⟩) d.size c), .func (.func g) #[] lb] w fun e w' =>
      e = .returned (.tuple #[]) ∧ ∃ d', PermIn 0 d.size d d' ∧ SortedIn lt 0 d.size d' ∧ RowT enc k w w.heap.size blk off d.size d' w' := by
  have hlim : Lib.bitLen d.size < 4611686018427387904 := Nat.lt_of_le_of_lt (Lib.bitLen_le d.size 62 (by omega) (by omega)) (by omega)
  have hB : sliceBound P e ie ke (some ⟨blk, off, none⟩) d.size c = #[.slice (some ⟨blk, off, none⟩) d.size c, typeHandle P e] := by
    unfold sliceBound; rw [if_neg (swapperK_gt _ _ _ h2)]
  have sw := swapSwapsK_of_literal (P := P) gS f hx e ie hie enc k hk hs1 hagg h1 blk off d.size c
  have F : FuncFam P lt w.heap.size d.size (RowT enc k w w.heap.size blk off d.size) g lb f #[.slice (some ⟨blk, off, none⟩) d.size c, typeHandle P e] :=
    { play := rowT_play enc k w w.heap.size blk off d.size hblk
      small := hsz
      eg := eg
      less := fun {d' W} h i j hi hj => hless d' W h i j hi hj
      swap := fun {d' W} h i j hi hj => ⟨_, sw W d' h.holds h.sz i j hi hj, h.swap hk i j hi hj, by rw [size_setCells, size_setCells]; exact Nat.le_refl _, fun b hb _ => by rw [setCells_off _ _ _ _ b (by omega), setCells_off _ _ _ _ b (by omega)]⟩ }
  have hT0 : RowT enc k w w.heap.size blk off d.size d w := ⟨rfl, hH, Nat.le_refl _, rfl, rfl, rfl, fun _ _ _ => rfl⟩
  have hT : RowT enc k w w.heap.size blk off d.size d (sliceWorld P ρ t (some ⟨blk, off, none⟩) d.size c w) := by
    unfold sliceWorld
    exact F.play.keep hT0 (((Below.refl _ _).alloc (Nat.le_refl _) _).alloc (by simp) _)
  have hp := pdq_all (P := P) (ρ := ρ) { L with } lt hO w.heap.size d.size _ g lb f _ F
    (fun d' W a b h hab hb => (Any.breakPatterns_func_cells_w (P := P) (ρ := ρ) { L with } enc k hk (.func g) #[] lb f _ blk off a b d' W (by rw [h.sz]; exact sw) h.holds (Nat.lt_of_lt_of_le hblk h.base) hab (by rw [h.sz]; exact hb) (by rw [h.sz]; exact hsz)).mono
      fun e w' ⟨he, hw⟩ => ⟨he, h.of_sortWorld hblk (step_break d' hab (by rw [h.sz]; exact hb) True).1 hw⟩)
    (fun d' W a b h hab hb => (Any.reverseRange_func_cells_w (P := P) (ρ := ρ) { L with } enc k hk (.func g) #[] lb f _ blk off a b d' W (by rw [h.sz]; exact sw) h.holds (Nat.lt_of_lt_of_le hblk h.base) hab (by rw [h.sz]; exact hb) (by rw [h.sz]; exact hsz)).mono
      fun e w' ⟨he, hw⟩ => ⟨he, h.of_sortWorld hblk (reverseRange_holds d' a b hab (by rw [h.sz]; exact hb)).1 hw⟩)
    (d.size + 1) 0 d.size (Lib.bitLen d.size) d _ (by omega) hT (Nat.zero_le _) (Nat.le_refl _) hlim (Or.inl rfl)
  have hsort := pdq_sorts lt hO d 0 d.size (Lib.bitLen d.size) true true (Nat.zero_le _) (Nat.le_refl _) (Or.inl rfl)
  refine (Any.sort_Slice_of_pdq L t e i ie hi hd hpk hie ke hke _ d.size c hsz f hf (.func g) #[] lb w (fun w' => RowT enc k w w.heap.size blk off d.size (Sort.pdq lt d 0 d.size (Lib.bitLen d.size) true true) w') ?_).mono ?_
  · rw [hB]
    exact hp.mono fun e w' ⟨he, h1, _⟩ => ⟨he, h1⟩
  · rintro e w' ⟨rfl, h⟩
    exact ⟨rfl, _, hsort.1, hsort.2, h⟩
end Go.Proofs.YtlpnecmcncekcaaGreat.St
