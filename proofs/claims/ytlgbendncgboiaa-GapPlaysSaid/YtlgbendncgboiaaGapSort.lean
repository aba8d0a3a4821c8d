import Derived.Test.YtlgbendncgboiaaGapB
import Derived.Test.YtlgbendncgboiaaStITop
import Derived.Test.YtlgbendncgboiaaStRowT
import Derived.Ground.GgtProg
import Derived.Shelf.GgSortMore.Lays
/- gap: sort.Sort of any many runs. -/
namespace Go.Proofs.Ytlgbendncgboiaa.Gp
open Go Go.RowKit Go.Shelf Go.Lib Go.Sort Gm
def laysSt_ren : Go.Shelf.Ren := ⟨fun | 11 => 27 | 17 => 32 | 18 => 33 | 31 => 34 | 32 => 35 | 33 => 36 | 34 => 37 | 35 => 38 | 36 => 39 | 37 => 40 | 38 => 41 | 39 => 42 | 40 => 43 | 43 => 44 | 44 => 45 | 45 => 46 | 46 => 47 | 47 => 48 | 50 => 49 | n => n, fun | 45 => 74 | 3 => 3 | 4 => 4 | 47 => 76 | 0 => 0 | 56 => 80 | 58 => 30 | 61 => 84 | 60 => 83 | 65 => 88 | 5 => 5 | 9 => 9 | 67 => 90 | 71 => 93 | 73 => 95 | 74 => 96 | 43 => 69 | 26 => 78 | 38 => 70 | n => n, fun | n => n⟩
theorem laysSt : Go.Proofs.LaysGt.n11 Try.prog laysSt_ren := {
  mixed := by kernel_rfl
  f11 := Try.func27.trans (congrArg some (by kernel_rfl))
  f17 := Try.func32.trans (congrArg some (by kernel_rfl))
  f18 := Try.func33.trans (congrArg some (by kernel_rfl))
  f31 := Try.func34.trans (congrArg some (by kernel_rfl))
  f32 := Try.func35.trans (congrArg some (by kernel_rfl))
  f33 := Try.func36.trans (congrArg some (by kernel_rfl))
  f34 := Try.func37.trans (congrArg some (by kernel_rfl))
  f35 := Try.func38.trans (congrArg some (by kernel_rfl))
  f36 := Try.func39.trans (congrArg some (by kernel_rfl))
  f37 := Try.func40.trans (congrArg some (by kernel_rfl))
  f38 := Try.func41.trans (congrArg some (by kernel_rfl))
  f39 := Try.func42.trans (congrArg some (by kernel_rfl))
  f40 := Try.func43.trans (congrArg some (by kernel_rfl))
  f43 := Try.func44.trans (congrArg some (by kernel_rfl))
  f44 := Try.func45.trans (congrArg some (by kernel_rfl))
  f45 := Try.func46.trans (congrArg some (by kernel_rfl))
  f46 := Try.func47.trans (congrArg some (by kernel_rfl))
  f47 := Try.func48.trans (congrArg some (by kernel_rfl))
  f50 := Try.func49.trans (congrArg some (by kernel_rfl))
  t0 := Try.underlying0
  a0 := Try.isAgg0
  z0 := Try.sizeOf0
  v0 := Try.zeroValue0
  i0 := by kernel_rfl
  t3 := Try.underlying3
  a3 := Try.isAgg3
  z3 := Try.sizeOf3
  v3 := Try.zeroValue3
  i3 := by kernel_rfl
  t4 := Try.underlying4
  a4 := Try.isAgg4
  z4 := Try.sizeOf4
  v4 := Try.zeroValue4
  i4 := by kernel_rfl
  t5 := Try.underlying5
  a5 := Try.isAgg5
  z5 := Try.sizeOf5
  v5 := Try.zeroValue5
  i5 := by kernel_rfl
  t9 := Try.underlying9
  a9 := Try.isAgg9
  z9 := Try.sizeOf9
  v9 := Try.zeroValue9
  i9 := by kernel_rfl
  t26 := Try.underlying78
  a26 := Try.isAgg78
  z26 := Try.sizeOf78
  v26 := Try.zeroValue78
  i26 := by kernel_rfl
  t38 := Try.underlying70
  a38 := Try.isAgg70
  z38 := Try.sizeOf70
  v38 := Try.zeroValue70
  i38 := by kernel_rfl
  t43 := Try.underlying69
  a43 := Try.isAgg69
  z43 := Try.sizeOf69
  v43 := Try.zeroValue69
  i43 := by kernel_rfl
  t45 := Try.underlying74
  a45 := Try.isAgg74
  z45 := Try.sizeOf74
  v45 := Try.zeroValue74
  i45 := by kernel_rfl
  t47 := Try.underlying76
  a47 := Try.isAgg76
  z47 := Try.sizeOf76
  v47 := Try.zeroValue76
  i47 := by kernel_rfl
  t56 := Try.underlying80
  a56 := Try.isAgg80
  z56 := Try.sizeOf80
  v56 := Try.zeroValue80
  i56 := by kernel_rfl
  t58 := Try.underlying30
  a58 := Try.isAgg30
  z58 := Try.sizeOf30
  v58 := Try.zeroValue30
  i58 := by kernel_rfl
  t60 := Try.underlying83
  a60 := Try.isAgg83
  z60 := Try.sizeOf83
  v60 := Try.zeroValue83
  i60 := by kernel_rfl
  t61 := Try.underlying84
  a61 := Try.isAgg84
  z61 := Try.sizeOf84
  v61 := Try.zeroValue84
  i61 := by kernel_rfl
  t65 := Try.underlying88
  a65 := Try.isAgg88
  z65 := Try.sizeOf88
  v65 := Try.zeroValue88
  i65 := by kernel_rfl
  t67 := Try.underlying90
  a67 := Try.isAgg90
  z67 := Try.sizeOf90
  v67 := Try.zeroValue90
  i67 := by kernel_rfl
  t71 := Try.underlying93
  a71 := Try.isAgg93
  z71 := Try.sizeOf93
  v71 := Try.zeroValue93
  i71 := by kernel_rfl
  t73 := Try.underlying95
  a73 := Try.isAgg95
  z73 := Try.sizeOf95
  v73 := Try.zeroValue95
  i73 := by kernel_rfl
  t74 := Try.underlying96
  a74 := Try.isAgg96
  z74 := Try.sizeOf96
  v74 := Try.zeroValue96
  i74 := by kernel_rfl }

def encR (x : Int × Int) : List Value := [.int .u64 x.1, .int .u64 x.2]
theorem encR_len (x : Int × Int) : (encR x).length = 2 := rfl
def ltR (a b : Int × Int) : Bool := decide (a.1 < b.1)
theorem swo_ltR : Sort.SWO ltR where
  irrefl := fun x => by simp [ltR]
  trans := fun x y z h1 h2 => by simp [ltR] at *; omega
  ntrans := fun x y z h1 h2 => by simp [ltR] at *; omega
theorem holdsR {V : World} {g : Nat} {l : List (Int × Int)} (h : RowIs V g l) (hf : ∀ i, V.frozen? ⟨g, i, none⟩ = false) : Sort.HoldsK encR 2 V g 0 l.toArray := by
  intro j hj
  have hj' : j < l.length * 2 := by simpa using hj
  have hlt : j / 2 < l.length := by omega
  rw [Sort.get_flatK _ _ _ _ (by simpa using hj')]
  refine ⟨?_, hf _⟩
  have hz : l.toArray[j / 2]! = l[j / 2] := by rw [getElem!_pos l.toArray (j / 2) (by simpa using hlt)]; simp
  have hx := h.2 (j / 2) _ (List.getElem?_eq_getElem hlt)
  rw [Nat.zero_add] at hx
  show V.cell? ⟨g, 0 + j, none⟩ = _
  rw [Nat.zero_add, hz]
  rcases (by omega : j % 2 = 0 ∨ j % 2 = 1) with e | e
  · have e2 : j = j / 2 * 2 := by omega
    rw [e]
    conv => lhs; rw [e2]
    exact hx.1
  · have e2 : j = j / 2 * 2 + 1 := by omega
    rw [e]
    conv => lhs; rw [e2]
    exact hx.2
theorem rowR {V : World} {g : Nat} {d : Array (Int × Int)} (h : Sort.HoldsK encR 2 V g 0 d) (hg : g < V.heap.size) : RowIs V g d.toList := by
  refine ⟨hg, fun i x hx => ?_⟩
  obtain ⟨hi, hx⟩ := List.getElem?_eq_some_iff.1 hx
  have hi' : i < d.size := by simpa using hi
  have hz : d[i]! = x := by rw [getElem!_pos d i hi', ← hx]; simp
  have h0 := (h.cell (i := i) (c := 0) hi' (by omega)).1
  have h1 := (h.cell (i := i) (c := 1) hi' (by omega)).1
  rw [Nat.add_zero, hz] at h0
  rw [hz] at h1
  exact ⟨h0, h1⟩
/-- the row as a state of the sort -/
def TR (w0 : World) (B g n : Nat) (d : Array (Int × Int)) (W : World) : Prop := St.RowT encR 2 w0 B g 0 n d W ∧ ∀ i, W.frozen? ⟨g, i, none⟩ = false
theorem TR_play (w0 : World) (B g n : Nat) (hg : g < B) : St.Play B n (TR w0 B g n) where
  base := fun h => h.1.base
  size := fun h => h.1.sz
  keep := fun {d W w} h hb => ⟨(St.rowT_play encR 2 w0 B g 0 n hg).keep h.1 hb, fun i => (hb.frozen (p := ⟨g, i, none⟩) (Nat.lt_of_lt_of_le hg h.1.base)).trans (h.2 i)⟩
  set := fun {d W} h a v ha => ⟨(St.rowT_play encR 2 w0 B g 0 n hg).set h.1 a v ha, fun i => by rw [World.frozen?_setCell]; exact h.2 i⟩
theorem famR (w0 : World) (B g n cap : Nat) (hg : g < B) (hn : n ≤ 1000000) : St.IfaceFam Try.prog ltR B n (TR w0 B g n) 48 (.slice (some ⟨g, 0, none⟩) n cap) 69 70 where
  play := TR_play w0 B g n hg
  small := by omega
  mL := fun W => by kernel_rfl
  mS := fun W => by kernel_rfl
  eL := enters_of Try.func69 (by kernel_rfl) rfl
  eS := enters_of Try.func70 (by kernel_rfl) rfl
  less := fun {d W} h i j hi hj => by
    have hs := h.1.sz
    have hr := rowR h.1.holds (Nat.lt_of_lt_of_le hg h.1.base)
    have hx : d.toList[i]? = some d[i]! := by rw [getElem!_pos d i (by omega)]; simp [hs, hi]
    have hy : d.toList[j]? = some d[j]! := by rw [getElem!_pos d j (by omega)]; simp [hs, hj]
    have hc := less_any g cap d.toList i j d[i]! d[j]! hx hy W hr
    rw [show d.toList.length = n by simpa using hs] at hc
    refine hc.mono ?_
    rintro e w ⟨rfl, q, rfl⟩
    exact ⟨rfl, below_drewN (Below.refl _ _) q⟩
  swap := fun {d W} h i j hi hj => by
    have hs := h.1.sz
    have a0 := (h.1.holds.cell (i := i) (c := 0) (by omega) (by omega)).1
    have a1 := (h.1.holds.cell (i := i) (c := 1) (by omega) (by omega)).1
    have b0 := (h.1.holds.cell (i := j) (c := 0) (by omega) (by omega)).1
    have b1 := (h.1.holds.cell (i := j) (c := 1) (by omega) (by omega)).1
    rw [Nat.zero_add, Nat.add_zero] at a0 b0
    rw [Nat.zero_add] at a1 b1
    refine (swap_any g cap n i j d[i]! d[j]! hi hj (fun e => by rw [e]) W a0 a1 b0 b1 h.2).mono ?_
    rintro e w ⟨rfl, rfl⟩
    have hd : TR w0 B g n d W.drew := (TR_play w0 B g n hg).keep h (Below.refl _ W).drew
    have hsw := hd.1.swap encR_len i j hi hj
    simp only [encR, World.setCells, Nat.zero_add] at hsw
    refine ⟨rfl, ⟨hsw, fun k => ?_⟩, ?_, fun k hk hk2 => ?_⟩
    · simp only [World.frozen?_setCell]; exact hd.2 k
    · simp
    · rw [Below.heap_setCell _ _ _ _ (by show k ≠ g; omega), Below.heap_setCell _ _ _ _ (by show k ≠ g; omega), Below.heap_setCell _ _ _ _ (by show k ≠ g; omega), Below.heap_setCell _ _ _ _ (by show k ≠ g; omega)]
      rfl
/-- what a sort leaves of a row -/
theorem sort_runs (g cap : Nat) (l : List (Int × Int)) (hl : l.length ≤ 1000) (W : World) (hr : RowIs W g l) (hf : ∀ i, W.frozen? ⟨g, i, none⟩ = false) :
    Calls Try.prog 27 #[.iface 48 (.slice (some ⟨g, 0, none⟩) l.length cap)] W fun e w' => e = .returned (.tuple #[]) ∧ ∃ ls, ls.Perm l ∧ (ls.Pairwise fun x y => x.1 ≤ y.1) ∧ RowIs w' g ls ∧ Below g W w' ∧ (∀ k, k < W.heap.size → k ≠ g → w'.heap[k]? = W.heap[k]?) ∧ ∀ i, w'.frozen? ⟨g, i, none⟩ = false := by
  have hlen : Calls Try.prog 68 #[.slice (some ⟨g, 0, none⟩) l.length cap] W fun e w' => e = .returned (.int .i64 (l.length : Int)) ∧ w' = W := rlen_any _ _ _ _
  by_cases h2 : 2 ≤ l.length
  · have hT : TR W W.heap.size g l.length l.toArray W := ⟨⟨by simp, holdsR hr hf, Nat.le_refl _, rfl, rfl, rfl, fun _ _ _ => rfl⟩, hf⟩
    refine (St.sort_any laysSt ltR swo_ltR W.heap.size l.length (TR W W.heap.size g l.length) 48 (.slice (some ⟨g, 0, none⟩) l.length cap) _ _ (famR W W.heap.size g l.length cap hr.1 (by omega)) h2 68 l.toArray W hT (by kernel_rfl) (enters_of Try.func68 (by kernel_rfl) rfl) hlen).mono ?_
    rintro e w' ⟨rfl, d', hp, hs, hT', hU⟩
    have hz := hT'.1.sz
    have hz2 : l.toArray.size = l.length := by simp
    have hgw := Nat.lt_of_lt_of_le hr.1 hT'.1.base
    refine ⟨rfl, d'.toList, ?_, ?_, rowR hT'.1.holds hgw, ⟨hT'.1.os, hT'.1.tape, hT'.1.output, hT'.1.base, fun k hk => hT'.1.rest k (Nat.lt_trans hk hr.1) (by omega)⟩, fun k hk hkg => hT'.1.rest k hk hkg, hT'.2⟩
    · have h3 := hp.2.2
      rw [hz2] at h3
      have e1 : d'.extract 0 l.length = d' := by rw [← hz]; exact Array.extract_size
      have e2 : l.toArray.extract 0 l.length = l.toArray := by rw [← hz2]; exact Array.extract_size
      rw [e1, e2] at h3
      simpa using h3
    · rw [List.pairwise_iff_getElem]
      intro i j hi hj hij
      have hj' : j < d'.size := by simpa using hj
      have := hs i j (Nat.zero_le _) hij (by rw [hz2, ← hz]; exact hj')
      rw [getElem!_pos d' j hj', getElem!_pos d' i (by omega)] at this
      simp [ltR] at this
      simpa using this
  · refine (St.tiny_any laysSt 48 (.slice (some ⟨g, 0, none⟩) l.length cap) 68 l.length (by omega) W (by kernel_rfl) (enters_of Try.func68 (by kernel_rfl) rfl) hlen).mono ?_
    rintro e w' ⟨rfl, rfl⟩
    refine ⟨rfl, l, List.Perm.refl _, ?_, hr, Below.refl _ _, fun _ _ _ => rfl, hf⟩
    match l, h2 with
    | [], _ => exact List.Pairwise.nil
    | [x], _ => simp
    | x :: y :: r, h => exact absurd (by simp) h
end Go.Proofs.Ytlgbendncgboiaa.Gp
