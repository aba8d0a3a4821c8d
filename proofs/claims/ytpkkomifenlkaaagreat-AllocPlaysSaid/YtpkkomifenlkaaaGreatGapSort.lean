import Derived.Test.YtpkkomifenlkaaaGreatGapB
import Derived.Test.YtpkkomifenlkaaaGreatSt3
import Derived.Test.YtpkkomifenlkaaaGreatSt3
import Derived.Ground.GgtProg
import Derived.Shelf.GgSortMore.Lays
/- gap: sort.Sort of any many runs. -/
namespace Go.Proofs.YtpkkomifenlkaaaGreat.Gp
open Go Go.RowKit Go.Shelf Go.Lib Go.Sort Gm
def laysSt_ren : Go.Shelf.Ren := ⟨fun | 11 => 52 | 17 => 72 | 18 => 73 | 31 => 101 | 32 => 102 | 33 => 103 | 34 => 104 | 35 => 105 | 36 => 106 | 37 => 107 | 38 => 108 | 39 => 109 | 40 => 110 | 43 => 120 | 44 => 121 | 45 => 122 | 46 => 123 | 47 => 124 | 50 => 131 | n => n, fun | 45 => 135 | 3 => 3 | 4 => 4 | 47 => 138 | 0 => 0 | 56 => 63 | 58 => 22 | 61 => 161 | 60 => 160 | 65 => 109 | 5 => 5 | 9 => 9 | 67 => 174 | 71 => 178 | 73 => 183 | 74 => 184 | 43 => 136 | 26 => 94 | 38 => 150 | n => n, fun | n => n⟩
theorem laysSt : Go.Proofs.LaysGt.n11 Tryz.prog laysSt_ren := {
  mixed := by kernel_rfl
  f11 := Tryz.func52.trans (congrArg some (by kernel_rfl))
  f17 := Tryz.func72.trans (congrArg some (by kernel_rfl))
  f18 := Tryz.func73.trans (congrArg some (by kernel_rfl))
  f31 := Tryz.func101.trans (congrArg some (by kernel_rfl))
  f32 := Tryz.func102.trans (congrArg some (by kernel_rfl))
  f33 := Tryz.func103.trans (congrArg some (by kernel_rfl))
  f34 := Tryz.func104.trans (congrArg some (by kernel_rfl))
  f35 := Tryz.func105.trans (congrArg some (by kernel_rfl))
  f36 := Tryz.func106.trans (congrArg some (by kernel_rfl))
  f37 := Tryz.func107.trans (congrArg some (by kernel_rfl))
  f38 := Tryz.func108.trans (congrArg some (by kernel_rfl))
  f39 := Tryz.func109.trans (congrArg some (by kernel_rfl))
  f40 := Tryz.func110.trans (congrArg some (by kernel_rfl))
  f43 := Tryz.func120.trans (congrArg some (by kernel_rfl))
  f44 := Tryz.func121.trans (congrArg some (by kernel_rfl))
  f45 := Tryz.func122.trans (congrArg some (by kernel_rfl))
  f46 := Tryz.func123.trans (congrArg some (by kernel_rfl))
  f47 := Tryz.func124.trans (congrArg some (by kernel_rfl))
  f50 := Tryz.func131.trans (congrArg some (by kernel_rfl))
  t0 := Tryz.underlying0
  a0 := Tryz.isAgg0
  z0 := Tryz.sizeOf0
  v0 := Tryz.zeroValue0
  i0 := by kernel_rfl
  t3 := Tryz.underlying3
  a3 := Tryz.isAgg3
  z3 := Tryz.sizeOf3
  v3 := Tryz.zeroValue3
  i3 := by kernel_rfl
  t4 := Tryz.underlying4
  a4 := Tryz.isAgg4
  z4 := Tryz.sizeOf4
  v4 := Tryz.zeroValue4
  i4 := by kernel_rfl
  t5 := Tryz.underlying5
  a5 := Tryz.isAgg5
  z5 := Tryz.sizeOf5
  v5 := Tryz.zeroValue5
  i5 := by kernel_rfl
  t9 := Tryz.underlying9
  a9 := Tryz.isAgg9
  z9 := Tryz.sizeOf9
  v9 := Tryz.zeroValue9
  i9 := by kernel_rfl
  t26 := Tryz.underlying94
  a26 := Tryz.isAgg94
  z26 := Tryz.sizeOf94
  v26 := Tryz.zeroValue94
  i26 := by kernel_rfl
  t38 := Tryz.underlying150
  a38 := Tryz.isAgg150
  z38 := Tryz.sizeOf150
  v38 := Tryz.zeroValue150
  i38 := by kernel_rfl
  t43 := Tryz.underlying136
  a43 := Tryz.isAgg136
  z43 := Tryz.sizeOf136
  v43 := Tryz.zeroValue136
  i43 := by kernel_rfl
  t45 := Tryz.underlying135
  a45 := Tryz.isAgg135
  z45 := Tryz.sizeOf135
  v45 := Tryz.zeroValue135
  i45 := by kernel_rfl
  t47 := Tryz.underlying138
  a47 := Tryz.isAgg138
  z47 := Tryz.sizeOf138
  v47 := Tryz.zeroValue138
  i47 := by kernel_rfl
  t56 := Tryz.underlying63
  a56 := Tryz.isAgg63
  z56 := Tryz.sizeOf63
  v56 := Tryz.zeroValue63
  i56 := by kernel_rfl
  t58 := Tryz.underlying22
  a58 := Tryz.isAgg22
  z58 := Tryz.sizeOf22
  v58 := Tryz.zeroValue22
  i58 := by kernel_rfl
  t60 := Tryz.underlying160
  a60 := Tryz.isAgg160
  z60 := Tryz.sizeOf160
  v60 := Tryz.zeroValue160
  i60 := by kernel_rfl
  t61 := Tryz.underlying161
  a61 := Tryz.isAgg161
  z61 := Tryz.sizeOf161
  v61 := Tryz.zeroValue161
  i61 := by kernel_rfl
  t65 := Tryz.underlying109
  a65 := Tryz.isAgg109
  z65 := Tryz.sizeOf109
  v65 := Tryz.zeroValue109
  i65 := by kernel_rfl
  t67 := Tryz.underlying174
  a67 := Tryz.isAgg174
  z67 := Tryz.sizeOf174
  v67 := Tryz.zeroValue174
  i67 := by kernel_rfl
  t71 := Tryz.underlying178
  a71 := Tryz.isAgg178
  z71 := Tryz.sizeOf178
  v71 := Tryz.zeroValue178
  i71 := by kernel_rfl
  t73 := Tryz.underlying183
  a73 := Tryz.isAgg183
  z73 := Tryz.sizeOf183
  v73 := Tryz.zeroValue183
  i73 := by kernel_rfl
  t74 := Tryz.underlying184
  a74 := Tryz.isAgg184
  z74 := Tryz.sizeOf184
  v74 := Tryz.zeroValue184
  i74 := by kernel_rfl }

def encR (x : Int × Int) : List Value := [.int .u64 x.1, .int .u64 x.2]
theorem encR_len (x : Int × Int) : (encR x).length = 2 := rfl
def ltR (a b : Int × Int) : Bool := decide (a.1 < b.1)
theorem swo_ltR : Sort.SWO ltR where
  irrefl := fun x => by simp [ltR]
  trans := fun x y z h1 h2 => by simp [ltR] at *; omega
  ntrans := fun x y z h1 h2 => by simp [ltR] at *; omega
theorem holdsR {V : World} {g : Nat} {l : List (Int × Int)} (h : RowIs V g l) (hf : ∀ i, V.frozen? ⟨g, i, none⟩ = false) : Sort.HoldsK encR 2 V g 0 l.toArray := by
  intro j hj
  have hj' : j < l.length * 2 := by simpa using hj
  have hlt : j / 2 < l.length := by omega
  rw [Sort.get_flatK _ _ _ _ (by simpa using hj')]
  refine ⟨?_, hf _⟩
  have hz : l.toArray[j / 2]! = l[j / 2] := by rw [getElem!_pos l.toArray (j / 2) (by simpa using hlt)]; simp
  have hx := h.2 (j / 2) _ (List.getElem?_eq_getElem hlt)
  rw [Nat.zero_add] at hx
  show V.cell? ⟨g, 0 + j, none⟩ = _
  rw [Nat.zero_add, hz]
  rcases (by omega : j % 2 = 0 ∨ j % 2 = 1) with e | e
  · have e2 : j = j / 2 * 2 := by omega
    rw [e]
    conv => lhs; rw [e2]
    exact hx.1
  · have e2 : j = j / 2 * 2 + 1 := by omega
    rw [e]
    conv => lhs; rw [e2]
    exact hx.2
theorem rowR {V : World} {g : Nat} {d : Array (Int × Int)} (h : Sort.HoldsK encR 2 V g 0 d) (hg : g < V.heap.size) : RowIs V g d.toList := by
  refine ⟨hg, fun i x hx => ?_⟩
  obtain ⟨hi, hx⟩ := List.getElem?_eq_some_iff.1 hx
  have hi' : i < d.size := by simpa using hi
  have hz : d[i]! = x := by rw [getElem!_pos d i hi', ← hx]; simp
  have h0 := (h.cell (i := i) (c := 0) hi' (by omega)).1
  have h1 := (h.cell (i := i) (c := 1) hi' (by omega)).1
  rw [Nat.add_zero, hz] at h0
  rw [hz] at h1
  exact ⟨h0, h1⟩
/-- the row as a state of the sort -/
def TR (w0 : World) (B g n : Nat) (d : Array (Int × Int)) (W : World) : Prop := St.RowT encR 2 w0 B g 0 n d W ∧ ∀ i, W.frozen? ⟨g, i, none⟩ = false
theorem TR_play (w0 : World) (B g n : Nat) (hg : g < B) : St.Play B n (TR w0 B g n) where
  base := fun h => h.1.base
  size := fun h => h.1.sz
  keep := fun {d W w} h hb => ⟨(St.rowT_play encR 2 w0 B g 0 n hg).keep h.1 hb, fun i => (hb.frozen (p := ⟨g, i, none⟩) (Nat.lt_of_lt_of_le hg h.1.base)).trans (h.2 i)⟩
  set := fun {d W} h a v ha => ⟨(St.rowT_play encR 2 w0 B g 0 n hg).set h.1 a v ha, fun i => by rw [World.frozen?_setCell]; exact h.2 i⟩
theorem famR (w0 : World) (B g n cap : Nat) (hg : g < B) (hn : n ≤ 1000000) : St.IfaceFam Tryz.prog ltR B n (TR w0 B g n) 110 (.slice (some ⟨g, 0, none⟩) n cap) 152 153 where
  play := TR_play w0 B g n hg
  small := by omega
  mL := fun W => by kernel_rfl
  mS := fun W => by kernel_rfl
  eL := enters_of Tryz.func152 (by kernel_rfl) rfl
  eS := enters_of Tryz.func153 (by kernel_rfl) rfl
  less := fun {d W} h i j hi hj => by
    have hs := h.1.sz
    have hr := rowR h.1.holds (Nat.lt_of_lt_of_le hg h.1.base)
    have hx : d.toList[i]? = some d[i]! := by rw [getElem!_pos d i (by omega)]; simp [hs, hi]
    have hy : d.toList[j]? = some d[j]! := by rw [getElem!_pos d j (by omega)]; simp [hs, hj]
    have hc := less_any g cap d.toList i j d[i]! d[j]! hx hy W hr
    rw [show d.toList.length = n by simpa using hs] at hc
    refine hc.mono ?_
    rintro e w ⟨rfl, q, rfl⟩
    exact ⟨rfl, below_drewN (Below.refl _ _) q⟩
  swap := fun {d W} h i j hi hj => by
    have hs := h.1.sz
    have a0 := (h.1.holds.cell (i := i) (c := 0) (by omega) (by omega)).1
    have a1 := (h.1.holds.cell (i := i) (c := 1) (by omega) (by omega)).1
    have b0 := (h.1.holds.cell (i := j) (c := 0) (by omega) (by omega)).1
    have b1 := (h.1.holds.cell (i := j) (c := 1) (by omega) (by omega)).1
    rw [Nat.zero_add, Nat.add_zero] at a0 b0
    rw [Nat.zero_add] at a1 b1
    refine (swap_any g cap n i j d[i]! d[j]! hi hj (fun e => by rw [e]) W a0 a1 b0 b1 h.2).mono ?_
    rintro e w ⟨rfl, rfl⟩
    have hd : TR w0 B g n d W.drew := (TR_play w0 B g n hg).keep h (Below.refl _ W).drew
    have hsw := hd.1.swap encR_len i j hi hj
    simp only [encR, World.setCells, Nat.zero_add] at hsw
    refine ⟨rfl, ⟨hsw, fun k => ?_⟩, ?_, fun k hk hk2 => ?_⟩
    · simp only [World.frozen?_setCell]; exact hd.2 k
    · simp
    · rw [Below.heap_setCell _ _ _ _ (by show k ≠ g; omega), Below.heap_setCell _ _ _ _ (by show k ≠ g; omega), Below.heap_setCell _ _ _ _ (by show k ≠ g; omega), Below.heap_setCell _ _ _ _ (by show k ≠ g; omega)]
      rfl
/-- what a sort leaves of a row -/
theorem sort_runs (g cap : Nat) (l : List (Int × Int)) (hl : l.length ≤ 1000) (W : World) (hr : RowIs W g l) (hf : ∀ i, W.frozen? ⟨g, i, none⟩ = false) :
    Calls Tryz.prog 52 #[.iface 110 (.slice (some ⟨g, 0, none⟩) l.length cap)] W fun e w' => e = .returned (.tuple #[]) ∧ ∃ ls, ls.Perm l ∧ (ls.Pairwise fun x y => x.1 ≤ y.1) ∧ RowIs w' g ls ∧ Below g W w' ∧ (∀ k, k < W.heap.size → k ≠ g → w'.heap[k]? = W.heap[k]?) ∧ ∀ i, w'.frozen? ⟨g, i, none⟩ = false := by
  have hlen : Calls Tryz.prog 151 #[.slice (some ⟨g, 0, none⟩) l.length cap] W fun e w' => e = .returned (.int .i64 (l.length : Int)) ∧ w' = W := rlen_any _ _ _ _
  by_cases h2 : 2 ≤ l.length
  · have hT : TR W W.heap.size g l.length l.toArray W := ⟨⟨by simp, holdsR hr hf, Nat.le_refl _, rfl, rfl, rfl, fun _ _ _ => rfl⟩, hf⟩
    refine (St.sort_any laysSt ltR swo_ltR W.heap.size l.length (TR W W.heap.size g l.length) 110 (.slice (some ⟨g, 0, none⟩) l.length cap) _ _ (famR W W.heap.size g l.length cap hr.1 (by omega)) h2 151 l.toArray W hT (by kernel_rfl) (enters_of Tryz.func151 (by kernel_rfl) rfl) hlen).mono ?_
    rintro e w' ⟨rfl, d', hp, hs, hT', hU⟩
    have hz := hT'.1.sz
    have hz2 : l.toArray.size = l.length := by simp
    have hgw := Nat.lt_of_lt_of_le hr.1 hT'.1.base
    refine ⟨rfl, d'.toList, ?_, ?_, rowR hT'.1.holds hgw, ⟨hT'.1.os, hT'.1.tape, hT'.1.output, hT'.1.base, fun k hk => hT'.1.rest k (Nat.lt_trans hk hr.1) (by omega)⟩, fun k hk hkg => hT'.1.rest k hk hkg, hT'.2⟩
    · have h3 := hp.2.2
      rw [hz2] at h3
      have e1 : d'.extract 0 l.length = d' := by rw [← hz]; exact Array.extract_size
      have e2 : l.toArray.extract 0 l.length = l.toArray := by rw [← hz2]; exact Array.extract_size
      rw [e1, e2] at h3
      simpa using h3
    · rw [List.pairwise_iff_getElem]
      intro i j hi hj hij
      have hj' : j < d'.size := by simpa using hj
      have := hs i j (Nat.zero_le _) hij (by rw [hz2, ← hz]; exact hj')
      rw [getElem!_pos d' j hj', getElem!_pos d' i (by omega)] at this
      simp [ltR] at this
      simpa using this
  · refine (St.tiny_any laysSt 110 (.slice (some ⟨g, 0, none⟩) l.length cap) 151 l.length (by omega) W (by kernel_rfl) (enters_of Tryz.func151 (by kernel_rfl) rfl) hlen).mono ?_
    rintro e w' ⟨rfl, rfl⟩
    refine ⟨rfl, l, List.Perm.refl _, ?_, hr, Below.refl _ _, fun _ _ _ => rfl, hf⟩
    match l, h2 with
    | [], _ => exact List.Pairwise.nil
    | [x], _ => simp
    | x :: y :: r, h => exact absurd (by simp) h
end Go.Proofs.YtpkkomifenlkaaaGreat.Gp
