import Derived.Test.YtpkkomifenlkaaaGapB
import Derived.Test.YtpkkomifenlkaaaStITop
import Derived.Test.YtpkkomifenlkaaaStRowT
import Derived.Ground.GgtProg
import Derived.Shelf.GgSortMore.Lays
/- gap: sort.Sort of any many runs. -/
namespace Go.Proofs.Ytpkkomifenlkaaa.Gp
open Go Go.RowKit Go.Shelf Go.Lib Go.Sort Gm
def encR (x : Int × Int) : List Value := [.int .u64 x.1, .int .u64 x.2]
theorem encR_len (x : Int × Int) : (encR x).length = 2 := rfl
def ltR (a b : Int × Int) : Bool := decide (a.1 < b.1)
theorem swo_ltR : Sort.SWO ltR where
  irrefl := fun x => by simp [ltR]
  trans := fun x y z h1 h2 => by simp [ltR] at *; omega
  ntrans := fun x y z h1 h2 => by simp [ltR] at *; omega
theorem holdsR {V : World} {g : Nat} {l : List (Int × Int)} (h : RowIs V g l) (hf : ∀ i, V.frozen? ⟨g, i, none⟩ = false) : Sort.HoldsK encR 2 V g 0 l.toArray := by
  intro j hj
  have hj' : j < l.length * 2 := by simpa using hj
  have hlt : j / 2 < l.length := by omega
  rw [Sort.get_flatK _ _ _ _ (by simpa using hj')]
  refine ⟨?_, hf _⟩
  have hz : l.toArray[j / 2]! = l[j / 2] := by rw [getElem!_pos l.toArray (j / 2) (by simpa using hlt)]; simp
  have hx := h.2 (j / 2) _ (List.getElem?_eq_getElem hlt)
  rw [Nat.zero_add] at hx
  show V.cell? ⟨g, 0 + j, none⟩ = _
  rw [Nat.zero_add, hz]
  rcases (by omega : j % 2 = 0 ∨ j % 2 = 1) with e | e
  · have e2 : j = j / 2 * 2 := by omega
    rw [e]
    conv => lhs; rw [e2]
    exact hx.1
  · have e2 : j = j / 2 * 2 + 1 := by omega
    rw [e]
    conv => lhs; rw [e2]
    exact hx.2
theorem rowR {V : World} {g : Nat} {d : Array (Int × Int)} (h : Sort.HoldsK encR 2 V g 0 d) (hg : g < V.heap.size) : RowIs V g d.toList := by
  refine ⟨hg, fun i x hx => ?_⟩
  obtain ⟨hi, hx⟩ := List.getElem?_eq_some_iff.1 hx
  have hi' : i < d.size := by simpa using hi
  have hz : d[i]! = x := by rw [getElem!_pos d i hi', ← hx]; simp
  have h0 := (h.cell (i := i) (c := 0) hi' (by omega)).1
  have h1 := (h.cell (i := i) (c := 1) hi' (by omega)).1
  rw [Nat.add_zero, hz] at h0
  rw [hz] at h1
  exact ⟨h0, h1⟩
/-- the row as a state of the sort -/
def TR (w0 : World) (B g n : Nat) (d : Array (Int × Int)) (W : World) : Prop := St.RowT encR 2 w0 B g 0 n d W ∧ ∀ i, W.frozen? ⟨g, i, none⟩ = false
theorem TR_play (w0 : World) (B g n : Nat) (hg : g < B) : St.Play B n (TR w0 B g n) where
  base := fun h => h.1.base
  size := fun h => h.1.sz
  keep := fun {d W w} h hb => ⟨(St.rowT_play encR 2 w0 B g 0 n hg).keep h.1 hb, fun i => (hb.frozen (p := ⟨g, i, none⟩) (Nat.lt_of_lt_of_le hg h.1.base)).trans (h.2 i)⟩
  set := fun {d W} h a v ha => ⟨(St.rowT_play encR 2 w0 B g 0 n hg).set h.1 a v ha, fun i => by rw [World.frozen?_setCell]; exact h.2 i⟩
theorem famR (w0 : World) (B g n cap : Nat) (hg : g < B) (hn : n ≤ 1000000) : St.IfaceFam Try.prog ltR B n (TR w0 B g n) 80 (.slice (some ⟨g, 0, none⟩) n cap) 114 115 where
  play := TR_play w0 B g n hg
  small := by omega
  mL := fun W => by kernel_rfl
  mS := fun W => by kernel_rfl
  eL := enters_of Try.func114 (by kernel_rfl) rfl
  eS := enters_of Try.func115 (by kernel_rfl) rfl
  less := fun {d W} h i j hi hj => by
    have hs := h.1.sz
    have hr := rowR h.1.holds (Nat.lt_of_lt_of_le hg h.1.base)
    have hx : d.toList[i]? = some d[i]! := by rw [getElem!_pos d i (by omega)]; simp [hs, hi]
    have hy : d.toList[j]? = some d[j]! := by rw [getElem!_pos d j (by omega)]; simp [hs, hj]
    have hc := less_any g cap d.toList i j d[i]! d[j]! hx hy W hr
    rw [show d.toList.length = n by simpa using hs] at hc
    refine hc.mono ?_
    rintro e w ⟨rfl, q, rfl⟩
    exact ⟨rfl, below_drewN (Below.refl _ _) q⟩
  swap := fun {d W} h i j hi hj => by
    have hs := h.1.sz
    have a0 := (h.1.holds.cell (i := i) (c := 0) (by omega) (by omega)).1
    have a1 := (h.1.holds.cell (i := i) (c := 1) (by omega) (by omega)).1
    have b0 := (h.1.holds.cell (i := j) (c := 0) (by omega) (by omega)).1
    have b1 := (h.1.holds.cell (i := j) (c := 1) (by omega) (by omega)).1
    rw [Nat.zero_add, Nat.add_zero] at a0 b0
    rw [Nat.zero_add] at a1 b1
    refine (swap_any g cap n i j d[i]! d[j]! hi hj (fun e => by rw [e]) W a0 a1 b0 b1 h.2).mono ?_
    rintro e w ⟨rfl, rfl⟩
    have hd : TR w0 B g n d W.drew := (TR_play w0 B g n hg).keep h (Below.refl _ W).drew
    have hsw := hd.1.swap encR_len i j hi hj
    simp only [encR, World.setCells, Nat.zero_add] at hsw
    refine ⟨rfl, ⟨hsw, fun k => ?_⟩, ?_, fun k hk hk2 => ?_⟩
    · simp only [World.frozen?_setCell]; exact hd.2 k
    · simp
    · rw [Below.heap_setCell _ _ _ _ (by show k ≠ g; omega), Below.heap_setCell _ _ _ _ (by show k ≠ g; omega), Below.heap_setCell _ _ _ _ (by show k ≠ g; omega), Below.heap_setCell _ _ _ _ (by show k ≠ g; omega)]
      rfl
end Go.Proofs.Ytpkkomifenlkaaa.Gp
