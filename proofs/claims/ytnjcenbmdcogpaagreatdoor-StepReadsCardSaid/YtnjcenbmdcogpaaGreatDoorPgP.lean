import Derived.Test.YtnjcenbmdcogpaaGreatDoorStpParse0
import Derived.Test.YtnjcenbmdcogpaaGreatDoorPgStWord
import Derived.Test.YtnjcenbmdcogpaaGreatDoorPgStBad
import Derived.Test.YtnjcenbmdcogpaaGreatDoorPgW
import Derived.Test.YtnjcenbmdcogpaaGreatDoorPgStWords
import Derived.Deep.RegionHeld3
import Derived.Deep.Cut
/- The page's Parse: what lies where, while it runs. -/
namespace Go.Proofs.YtnjcenbmdcogpaaGreatDoor.Sp
open Go Go.Lib Go.RowKit

theorem strict_0 {ws : List Bs} (h : kL (ws.getD 0 []) = 0) : strict ws = none := by
  unfold strict
  split
  · rename_i a; rw [if_neg (by show ¬ kL ([a].getD 0 []) = 7; omega), if_neg (by show ¬ kL ([a].getD 0 []) = 8; omega)]
  · rename_i a b
    have h : kL a = 0 := h
    rw [h]; rfl
  · rename_i a b c
    have h : kL a = 0 := h
    rw [h]; rfl
  · rename_i a b c d e
    have h : kL a = 0 := h
    rw [h]; rfl
  · rfl
def manyK (k : Nat) : Nat := if k = 3 then 5 else if k = 6 then 3 else if k = 7 ∨ k = 8 then 1 else 2
theorem strict_many {ws : List Bs} {k : Nat} (h : kL (ws.getD 0 []) = k) (h0 : k ≠ 0) (hn : ws.length ≠ manyK k) : strict ws = none := by
  have h8 := kL_le (ws.getD 0 [])
  unfold manyK at hn
  unfold strict
  split
  · rename_i a
    have h : kL a = k := h
    have hn : 1 ≠ _ := hn
    by_cases h7 : k = 7
    · subst h7; exact absurd rfl hn
    · by_cases h8 : k = 8
      · subst h8; exact absurd rfl hn
      · rw [if_neg (by omega), if_neg (by omega)]
  · rename_i a b
    have h : kL a = k := h
    have hn : 2 ≠ _ := hn
    by_cases h3 : k = 3 ∨ k = 6 ∨ k = 7 ∨ k = 8
    · rw [if_neg (by omega), if_neg (by omega), if_neg (by omega), if_neg (by omega)]
    · rw [if_neg (by omega), if_neg (by omega), if_neg (by omega)] at hn
      exact absurd rfl hn
  · rename_i a b c
    have h : kL a = k := h
    have hn : 3 ≠ _ := hn
    by_cases h6 : k = 6
    · subst h6; exact absurd rfl hn
    · rw [if_neg (by omega)]
  · rename_i a b c d e
    have h : kL a = k := h
    have hn : 5 ≠ _ := hn
    by_cases h6 : k = 3
    · subst h6; exact absurd rfl hn
    · rw [if_neg (by omega)]
  · rfl

/-- a word of a row -/
def gx (xs : List ByteArray) (i : Nat) : ByteArray := xs.getD i ⟨#[]⟩
structure PG (w W : World) (T g : Nat) (xs : List ByteArray) (x : St) : Prop where
  b : Below w.heap.size w W
  r : ∃ y : St, W.heap[w.heap.size]? = some (.cells y.cells 26 (0, 0))
  row : ∀ i, i < xs.length → W.cell? ⟨g, i, none⟩ = some (.string (gx xs i))
  gl : g < W.heap.size
  t : W.heap[T]? = some (.cells x.cells 26 (0, 0))
  hg : w.heap.size < g
  hT : g < T
theorem PG.below {w W W' : World} {T g : Nat} {xs : List ByteArray} {x : St} (h : PG w W T g xs x) (hb : Below W.heap.size W W') : PG w W' T g xs x := by
  have lt : ∀ k o, W.heap[k]? = some o → k < W.heap.size := fun k o e => (Array.getElem?_eq_some_iff.1 e).1
  obtain ⟨y, hy⟩ := h.r
  exact ⟨h.b.trans (hb.mono h.b.size), ⟨y, (hb.block _ (lt _ _ hy)).trans hy⟩, fun i hi => (hb.cell (p := ⟨g, i, none⟩) h.gl).trans (h.row i hi), Nat.lt_of_lt_of_le h.gl hb.size, (hb.block _ (lt _ _ h.t)).trans h.t, h.hg, h.hT⟩
theorem PG.set {w W : World} {T g : Nat} {xs : List ByteArray} {x x' : St} (h : PG w W T g xs x) (i : Nat) (v : Value) (hx : x.cells.setIfInBounds i v = x'.cells) : PG w (W.setCell ⟨T, i, none⟩ v) T g xs x' := by
  have hT := h.hT; have hg := h.hg
  have bl : ∀ k, k ≠ T → (W.setCell ⟨T, i, none⟩ v).heap[k]? = W.heap[k]? := fun k hk => Below.heap_setCell _ _ _ _ hk
  obtain ⟨y, hy⟩ := h.r
  exact ⟨h.b.setCell (p := ⟨T, i, none⟩) (by show w.heap.size ≤ T; omega) v, ⟨y, (bl _ (by omega)).trans hy⟩, fun j hj => (cell_of_blk (bl _ (by omega))).trans (h.row j hj), by simpa using h.gl, by rw [← hx]; exact set_cells h.t v, hg, hT⟩
theorem PG.setR {w W : World} {T g : Nat} {xs : List ByteArray} {x y : St} (h : PG w W T g xs x) : PG w (W.setRow w.heap.size y.cells) T g xs x := by
  have hT := h.hT; have hg := h.hg
  obtain ⟨y0, hy⟩ := h.r
  have bl : ∀ k, k ≠ w.heap.size → (W.setRow w.heap.size y.cells).heap[k]? = W.heap[k]? := fun k hk => setRow_other _ _ _ _ (by omega)
  exact ⟨⟨h.b.os, h.b.tape, h.b.output, by simpa using h.b.size, fun i hi => (bl _ (by omega)).trans (h.b.block i hi)⟩, ⟨y, setRow_heap W w.heap.size _ y.cells 26 (0, 0) hy⟩, fun j hj => (cell_of_blk (bl _ (by omega))).trans (h.row j hj), by simpa using h.gl, (bl _ (by omega)).trans h.t, hg, hT⟩
theorem PG.cells {w W : World} {T g : Nat} {xs : List ByteArray} {x : St} (h : PG w W T g xs x) : (W.cell? ⟨T, 0, none⟩ = some (.int .i64 x.k) ∧ W.cell? ⟨T, 1, none⟩ = some (.int .i64 x.sd) ∧ W.cell? ⟨T, 2, none⟩ = some (.int .i64 x.n) ∧ W.cell? ⟨T, 3, none⟩ = some (.int .i64 x.c) ∧ W.cell? ⟨T, 4, none⟩ = some (.int .i64 x.f) ∧ W.cell? ⟨T, 5, none⟩ = some (.int .u64 x.s) ∧ W.cell? ⟨T, 6, none⟩ = some (.int .u64 x.t) ∧ W.cell? ⟨T, 7, none⟩ = some (.string x.d)) ∧
    (W.frozen? ⟨T, 0, none⟩ = false ∧ W.frozen? ⟨T, 1, none⟩ = false ∧ W.frozen? ⟨T, 2, none⟩ = false ∧ W.frozen? ⟨T, 3, none⟩ = false ∧ W.frozen? ⟨T, 4, none⟩ = false ∧ W.frozen? ⟨T, 6, none⟩ = false ∧ W.frozen? ⟨T, 7, none⟩ = false) := by
  have c : ∀ i, W.cell? ⟨T, i, none⟩ = x.cells[i]? := fun i => cell_of_row _ _ _ _ _ (0, 0) h.t
  have f : ∀ i, W.frozen? ⟨T, i, none⟩ = false := fun i => Lib.frozen_of_heap h.t i
  exact ⟨⟨c 0, c 1, c 2, c 3, c 4, c 5, c 6, c 7⟩, f 0, f 1, f 2, f 3, f 4, f 6, f 7⟩
theorem PG.start {w w1 : World} {xs : List ByteArray} {v : Value} (hb : Below (w.alloc (.cells St0.cells 26)).heap.size (w.alloc (.cells St0.cells 26)) w1) (hown : w1.ownsRow (w.heap.size + 1) 9 1 v xs.length (xs.map Value.string)) (h0 : xs ≠ []) :
    ∃ g cap, v = .slice (some ⟨g, 0, none⟩) xs.length cap ∧ PG w (w1.alloc (.cells St0.cells 26)) w1.heap.size g xs St0 := by
  have hp : 0 < xs.length := List.length_pos_iff.2 h0
  rcases hown.2 with ⟨_, hx⟩ | ⟨g, cap, cur, rfl, hbg, hg, _⟩
  · exact absurd (by simpa using hx) h0
  · have hgl := (Array.getElem?_eq_some_iff.1 hg).1
    refine ⟨g, cap, rfl, ?_⟩
    have hb1 : Below w.heap.size w w1 := ((Below.refl w.heap.size w).alloc (Nat.le_refl _) (.cells St0.cells 26)).trans (hb.mono (by simp))
    have hb2 : Below w1.heap.size w1 (w1.alloc (.cells St0.cells 26)) := (Below.refl _ _).alloc (Nat.le_refl _) _
    have hr : w1.heap[w.heap.size]? = some (.cells St0.cells 26 (0, 0)) := (hb.block _ (by simp)).trans (heap_alloc_new _ _)
    refine ⟨hb1.trans (hb2.mono hb1.size), ⟨St0, (hb2.block _ (Array.getElem?_eq_some_iff.1 hr).1).trans hr⟩, fun i hi => (hb2.cell (p := ⟨g, i, none⟩) hgl).trans ?_, Nat.lt_of_lt_of_le hgl hb2.size, heap_alloc_new _ _, by omega, hgl⟩
    have := hown.cells (g := g) rfl i (.string (gx xs i)) (by unfold gx; rw [List.getElem?_map, List.getElem?_eq_getElem hi, List.getD_eq_getElem?_getD, List.getElem?_eq_getElem hi]; rfl)
    rw [← this]
    unfold Addr.add
    by_cases hz : i = 0 <;> simp [hz]
def kx (kk k : Nat) : Int := if kk < k then (kk : Int) else 0
def stK (n : Int) : St := ⟨n, 0, 0, 0, 0, 0, 0, ⟨#[]⟩⟩
/-- how the page's Parse ends -/
def pP (l : Bs) (e : Ending) : Prop := (∃ x : St, strict (sp l) = some x ∧ e = .returned (.tuple #[.agg x.cells, .bool true])) ∨ (strict (sp l) = none ∧ ∃ x : St, e = .returned (.tuple #[.agg x.cells, .bool false]))
theorem res8p (tmps : Array Value) (w : World) (g : Nat) (x : St) (n : Bool) (hp : tmps.getD 2 undef = .pointer (some ⟨g, 0, none⟩)) (h3 : tmps.getD 3 undef = .bool n)
    (hg : w.heap[g]? = some (.cells x.cells 26 (0, 0))) : (results Tryz.f66 tmps).run Tryz.prog w = .ok (.tuple #[.agg x.cells, .bool n]) w := by
  have hp' : tmps[2]?.getD undef = .pointer (some ⟨g, 0, none⟩) := by simpa using hp
  have h3' : tmps[3]?.getD undef = .bool n := by simpa using h3
  simp [results, Tryz.results66, hp', h3', asAddr, run_loadVar_row w g 26 26 x.cells (0, 0) _ hg Tryz.underlying26 rfl (hi8 x)]
end Go.Proofs.YtnjcenbmdcogpaaGreatDoor.Sp
/- The page's Parse, kind by kind. -/
namespace Go.Proofs.YtnjcenbmdcogpaaGreatDoor.Sp
open Go Go.Lib Go.RowKit
set_option linter.unusedSimpArgs false

theorem kx_ne {k q : Nat} (h : q ≠ k) : stK (kx k (q + 1)) = stK (kx k q) := by
  unfold kx
  by_cases h1 : k < q
  · rw [if_pos h1, if_pos (by omega)]
  · rw [if_neg h1, if_neg (by omega)]
theorem one1 {xs : List ByteArray} (h : xs.length = 1) : xs.map (·.data.toList) = [(gx xs 0).data.toList] := by match xs, h with | [a], _ => rfl
theorem two2 {xs : List ByteArray} (h : xs.length = 2) : xs.map (·.data.toList) = [(gx xs 0).data.toList, (gx xs 1).data.toList] := by match xs, h with | [a, b], _ => rfl
theorem three3 {xs : List ByteArray} (h : xs.length = 3) : xs.map (·.data.toList) = [(gx xs 0).data.toList, (gx xs 1).data.toList, (gx xs 2).data.toList] := by match xs, h with | [a, b, c], _ => rfl
theorem five5 {xs : List ByteArray} (h : xs.length = 5) : xs.map (·.data.toList) = [(gx xs 0).data.toList, (gx xs 1).data.toList, (gx xs 2).data.toList, (gx xs 3).data.toList, (gx xs 4).data.toList] := by match xs, h with | [a, b, c, d, e], _ => rfl
theorem none_of {α : Type} {o : Option α} (h : o.isSome = false) : o = none := by
  cases o with
  | none => rfl
  | some a => cases h
theorem st1 (a : Bs) : strict [a] = if kL a = 7 then some ⟨7, 0, 0, 0, 0, 0, 0, ⟨#[]⟩⟩ else if kL a = 8 then some ⟨8, 0, 0, 0, 0, 0, 0, ⟨#[]⟩⟩ else none := rfl
theorem st2 (a b : Bs) : strict [a, b] = if kL a = 1 then (sm b 2147483647).map fun (u : Nat) => ⟨1, 0, (u : Int), 0, 0, 0, 0, ⟨#[]⟩⟩ else if kL a = 2 then (sm b 1).map fun (u : Nat) => ⟨2, (u : Int), 0, 0, 0, 0, 0, ⟨#[]⟩⟩
    else if kL a = 4 then (sm b 1).map fun (u : Nat) => ⟨4, (u : Int), 0, 0, 0, 0, 0, ⟨#[]⟩⟩ else if kL a = 5 then (sm b 7).map fun (u : Nat) => ⟨5, 0, (u : Int), 0, 0, 0, 0, ⟨#[]⟩⟩ else none := rfl
theorem strict_one {ws : List Bs} {a : Bs} {k : Nat} (h : kL (ws.getD 0 []) = k) (hk : k = 7 ∨ k = 8) (hw : ws = [a]) : strict ws = some ⟨k, 0, 0, 0, 0, 0, 0, ⟨#[]⟩⟩ := by
  subst hw
  have h : kL a = k := h
  rw [st1]
  rcases hk with rfl | rfl
  · rw [if_pos h]; rfl
  · rw [if_neg (by omega), if_pos h]; rfl
def stN (k u : Nat) : St := ⟨k, if k = 2 ∨ k = 4 then u else 0, if k = 2 ∨ k = 4 then 0 else u, 0, 0, 0, 0, ⟨#[]⟩⟩
def mxN (k : Nat) : Nat := if k = 1 then 2147483647 else if k = 5 then 7 else 1
theorem strict_two {ws : List Bs} {a b : Bs} {k : Nat} (h : kL (ws.getD 0 []) = k) (hk : k = 1 ∨ k = 2 ∨ k = 4 ∨ k = 5) (hw : ws = [a, b]) : strict ws = (sm b (mxN k)).map (stN k) := by
  subst hw
  have h : kL a = k := h
  rw [st2]
  rcases hk with rfl | rfl | rfl | rfl
  · rw [if_pos h]; rfl
  · rw [if_neg (by omega), if_pos h]; rfl
  · rw [if_neg (by omega), if_neg (by omega), if_pos h]; rfl
  · rw [if_neg (by omega), if_neg (by omega), if_neg (by omega), if_pos h]; rfl
theorem strict_three {ws : List Bs} {a b c : Bs} (h : kL (ws.getD 0 []) = 6) (hw : ws = [a, b, c]) : strict ws = (sm b 1).bind fun u => (sm c 4).bind fun v => if v = 0 then none else some ⟨6, u, v, 0, 0, 0, 0, ⟨#[]⟩⟩ := by
  subst hw
  have h : kL a = 6 := h
  show (if kL a = 6 then _ else _) = _
  rw [if_pos h]
theorem strict_five {ws : List Bs} {a b c d e : Bs} (h : kL (ws.getD 0 []) = 3) (hw : ws = [a, b, c, d, e]) : strict ws = (sm b 3).bind fun u => (sm c 1).bind fun v => (numL d).bind fun t => (bytesL e).bind fun y =>
      if y.length ≤ 64 then some ⟨3, 0, 0, u, v, 0, t, ⟨y.toArray⟩⟩ else none := by
  subst hw
  have h : kL a = 3 := h
  show (if kL a = 3 then _ else _) = _
  rw [if_pos h]
theorem small_none {s : ByteArray} {m : Nat} (h : sm s.data.toList m = none) (hs : s.size ≤ 1000000) (hm : m ≤ 2147483647) (w : World) : Calls Tryz.prog 98 #[.string s, .int .i64 (m : Int)] w fun e w' => e = .returned (.tuple #[.int .i64 0, .bool false]) ∧ w' = w := by
  have := small_any s hs m hm w
  unfold smE at this
  rw [h] at this
  exact this
theorem small_some {s : ByteArray} {m u : Nat} (h : sm s.data.toList m = some u) (hs : s.size ≤ 1000000) (hm : m ≤ 2147483647) (w : World) : Calls Tryz.prog 98 #[.string s, .int .i64 (m : Int)] w fun e w' => e = .returned (.tuple #[.int .i64 (u : Int), .bool true]) ∧ w' = w := by
  have := small_any s hs m hm w
  unfold smE at this
  rw [h] at this
  exact this
theorem xs_sz {s : ByteArray} {xs : List ByteArray} (h : xs.map (·.data.toList) = sp s.data.toList) (i : Nat) : (gx xs i).size ≤ s.size := by
  unfold gx
  rcases Nat.lt_or_ge i xs.length with hi | hi
  · rw [List.getD_eq_getElem?_getD, List.getElem?_eq_getElem hi]
    have := (sp_len s.data.toList).1 (xs[i]).data.toList (by rw [← h]; exact List.mem_map.2 ⟨_, List.getElem_mem hi, rfl⟩)
    simpa using this
  · rw [List.getD_eq_getElem?_getD, List.getElem?_eq_none hi]; exact Nat.zero_le _

set_option maxHeartbeats 4000000 in
set_option maxRecDepth 100000 in
theorem rparse_0 (s : ByteArray) (hs : s.size ≤ 2000) (hk : kL ((sp s.data.toList).getD 0 []) = 0) (w : World) : Calls Tryz.prog 66 #[.string s] w fun e w' => pP s.data.toList e ∧ Below w.heap.size w w' := by
  have HS := Lib.hid hs
  have HK := Lib.hid hk
  clear hs hk
  go_enter Tryz.func66, Tryz.ntmps66
  go_wp2_with fail
  refine (words_any s (by have := HS.out; omega) _).mono ?_
  rintro _ w1 ⟨⟨v, xs, rfl, hown, hxs⟩, hb1⟩
  have hxn : xs ≠ [] := fun e => sp_ne s.data.toList (by rw [← hxs, e]; rfl)
  have HXn := Lib.hid hxn
  have HXs := Lib.hid hxs
  simp only [World.size_alloc] at hown
  obtain ⟨g, cap, rfl, hpg⟩ := PG.start (w := w) hb1 hown hxn
  have HP := Lib.hid hpg
  have HN := Lib.hid (List.length_pos_iff.2 hxn)
  have H0 : Hid (kL (gx xs 0).data.toList = 0) := Lib.hid (by
    have e : (gx xs 0).data.toList = (sp s.data.toList).getD 0 [] := by
      unfold gx
      rw [← hxs, List.getD_eq_getElem?_getD, List.getD_eq_getElem?_getD, List.getElem?_map]
      cases hx : xs[0]? with
      | none => exact absurd (List.getElem?_eq_none_iff.1 hx) (by have := HN.out; omega)
      | some a => rfl
    rw [e]; exact HK.out)
  clear hown hb1 hpg hxn hxs
  obtain ⟨T, hT⟩ : ∃ T, w1.heap.size = T := ⟨_, rfl⟩
  go_upto_region 3 with fail
  rw [hT] at HP
  obtain ⟨W2, hW2⟩ : ∃ W2, W2 = w1.alloc (.cells St0.cells 26) := ⟨_, rfl⟩
  have HP2 : Hid (PG w W2 T g xs St0) := by rw [hW2]; exact HP
  rw [show w1.alloc (.cells #[.int .i64 0, .int .i64 0, .int .i64 0, .int .i64 0, .int .i64 0, .int .u64 0, .int .u64 0, .string ⟨#[]⟩] 26) = W2 from hW2.symm]
  have hn0 : (0 : Int) < (xs.length : Int) := by have := HN.out; omega
  clear hW2 HP hT
  go_wp2_with fail
  go_loopw [6] (fun i wr => ∃ kq : Nat, i = .int .i64 (kq : Int) ∧ 1 ≤ kq ∧ kq ≤ 9 ∧ Hid (PG w wr T g xs (stK (kx 0 kq)))) (fun i _ => 9 - (RowKit.intOf i).toNat)
  case atStart => exact ⟨1, rfl, by omega, by omega, HP2⟩
  case round =>
    obtain ⟨kq, rfl, hk1, hk9, HP⟩ := hrel
    clear HP2
    by_cases h8 : kq ≤ 8
    · have hk8 : (kq : Int) ≤ 8 := by omega
      have hk0 : (0 : Int) ≤ (kq : Int) := by omega
      go_upto_region 6 with fail
      refine wp_region_held_drew (S := fun V => PG w V T g xs (stK (kx 0 kq))) (by kernel_rfl) (HP.out.below (Below.refl _ _).drew) (fun hHeld => ?_)
      refine wpAnyH_take (i := 0) (oi := _) (v := ?_) rfl (by kernel_rfl) (by kernel_rfl) (by kernel_rfl) (fun _ _ _ h => h) (Or.inl ⟨by rfl, ?_⟩) (by assumption) ?_
      rotate_left
      · (intro W hSw; obtain ⟨⟨c0, c1, c2, c3, c4, c5, c6, c7⟩, _⟩ := PG.cells hSw; have w0 := PG.row hSw 0 HN.out; have hn0n := HN.out; go_simp; try with_reducible rfl)
      try simp only [Act.put, List.getElem_toArray, List.getElem_cons_zero, List.setIfInBounds_toArray, List.set_cons_zero, List.set_cons_succ]
      refine wpAnyH_take (i := 2) (oi := _) (v := ?_) rfl (by kernel_rfl) (by kernel_rfl) (by kernel_rfl) (fun _ _ _ h => h) (Or.inl ⟨by rfl, ?_⟩) (by assumption) ?_
      rotate_left
      · (intro W hSw; obtain ⟨⟨c0, c1, c2, c3, c4, c5, c6, c7⟩, _⟩ := PG.cells hSw; have w0 := PG.row hSw 0 HN.out; have hn0n := HN.out; go_simp; try with_reducible rfl)
      try simp only [Act.put, List.getElem_toArray, List.getElem_cons_succ, List.getElem_cons_zero, List.setIfInBounds_toArray, List.set_cons_zero, List.set_cons_succ]
      refine wpAnyH_take (i := 3) (oi := _) (v := ?_) rfl (by kernel_rfl) (by kernel_rfl) (by kernel_rfl) (fun _ _ _ h => h) (Or.inl ⟨by rfl, ?_⟩) (by assumption) ?_
      rotate_left
      · (intro W hSw; obtain ⟨⟨c0, c1, c2, c3, c4, c5, c6, c7⟩, _⟩ := PG.cells hSw; have w0 := PG.row hSw 0 HN.out; have hn0n := HN.out; go_simp; try with_reducible rfl)
      try simp only [Act.put, List.getElem_toArray, List.getElem_cons_succ, List.getElem_cons_zero, List.setIfInBounds_toArray, List.set_cons_zero, List.set_cons_succ]
      refine wpAnyH_take (i := 4) (oi := _) (v := ?_) rfl (by kernel_rfl) (by kernel_rfl) (by kernel_rfl) (fun _ _ _ h => h) (Or.inl ⟨by rfl, ?_⟩) (by assumption) ?_
      rotate_left
      · (intro W hSw; obtain ⟨⟨c0, c1, c2, c3, c4, c5, c6, c7⟩, _⟩ := PG.cells hSw; have w0 := PG.row hSw 0 HN.out; have hn0n := HN.out; go_simp; try with_reducible rfl)
      try simp only [Act.put, List.getElem_toArray, List.getElem_cons_succ, List.getElem_cons_zero, List.setIfInBounds_toArray, List.set_cons_zero, List.set_cons_succ]
      refine wpAnyH_ready (rs := [1]) (by kernel_rfl) (by simp) ?_
      refine AllReadyH.cons rfl (fun K hK => ?_) AllReadyH.nil
      simp only [List.getElem_toArray, List.getElem_cons_succ, List.getElem_cons_zero]
      rw [if_pos (by rfl)]
      go_simp
      refine (rword_any kq hk1 h8 _).mono ?_
      rintro _ wb ⟨rfl, hb⟩
      go_wp2_with fail
      refine hK.out _ _ (PG.below hHeld hb) (fun hHeld => ?_)
      clear hK K
      try simp only [Act.put, List.getElem_toArray, List.getElem_cons_succ, List.getElem_cons_zero, List.setIfInBounds_toArray, List.set_cons_zero, List.set_cons_succ]
      refine wpAnyH_take (i := 5) (oi := _) (v := ?_) rfl (by kernel_rfl) (by kernel_rfl) (by kernel_rfl) (fun _ _ _ h => h) (Or.inl ⟨by rfl, ?_⟩) (by assumption) ?_
      rotate_left
      · (intro W hSw; obtain ⟨⟨c0, c1, c2, c3, c4, c5, c6, c7⟩, _⟩ := PG.cells hSw; have w0 := PG.row hSw 0 HN.out; have hn0n := HN.out; go_simp; try with_reducible rfl)
      try simp only [Act.put, List.getElem_toArray, List.getElem_cons_succ, List.getElem_cons_zero, List.setIfInBounds_toArray, List.set_cons_zero, List.set_cons_succ]
      refine wpAnyH_done (by kernel_rfl) ?_ _
      have HPb := Lib.hid hHeld
      clear hHeld HP
      have he : kq ≠ 0 := by omega
      have e1 : ((wdB kq).toList == (gx xs 0).toList) = false := tl_ne fun e => he (by
        have := H0.out
        rw [← e] at this
        exact (kL_first hk1 h8 (by simp [wdB])).symm.trans this)
      rw [← kx_ne he] at HPb
      have HE9 := Lib.hid (And.intro hk1 h8)
      clear he hk1 hk9 h8
      rw [e1]
      clear e1
      go_wp2
      go_roundw
      case rel => exact ⟨kq + 1, by go_num, by omega, by have := HE9.out; omega, HPb⟩
      case measure => have := HE9.out; simp [RowKit.intOf]; omega
    · obtain rfl : kq = 9 := by omega
      rw [show stK (kx 0 9) = (⟨0, 0, 0, 0, 0, 0, 0, ⟨#[]⟩⟩ : St) from rfl] at HP
      clear h8 hk1 hk9
      obtain ⟨⟨c0, c1, c2, c3, c4, c5, c6, c7⟩, z0, z1, z2, z3, z4, z6, z7⟩ := HP.out.cells
      dsimp only at c0 c1 c2 c3 c4 c5 c6 c7
      go_wp2_with fail
      refine (has_0 _).mono ?_
      rintro _ w3 ⟨rfl, hb3⟩
      have HP3 := Lib.hid (HP.out.below hb3)
      clear hb3 HP
      clear c0 c1 c2 c3 c4 c5 c6 c7 z0 z1 z2 z3 z4 z6 z7
      obtain ⟨⟨c0, c1, c2, c3, c4, c5, c6, c7⟩, z0, z1, z2, z3, z4, z6, z7⟩ := HP3.out.cells
      dsimp only at c0 c1 c2 c3 c4 c5 c6 c7
      go_wp2_with fail
      refine (in_q_112 _).mono ?_
      rintro _ wq ⟨rfl, hq⟩
      obtain rfl := hq.symm
      clear hq
      have HE := Lib.hid (strict_0 HK.out)
      go_upto_region 13 with fail
      refine wp_region_lit ?_
      refine wpList_load_row rfl 26 _ rfl T rfl 26 (⟨0, 0, 0, 0, 0, 0, 0, ⟨#[]⟩⟩ : St).cells (0, 0) _ HP3.out.t Tryz.underlying26 rfl (hi8 (⟨0, 0, 0, 0, 0, 0, 0, ⟨#[]⟩⟩ : St)) ?_
      obtain ⟨y0, hy0⟩ := HP3.out.r
      refine wpList_store_rowTo rfl 26 _ _ rfl rfl w.heap.size (⟨0, 0, 0, 0, 0, 0, 0, ⟨#[]⟩⟩ : St).cells rfl rfl 26 _ hy0 (hi8 (⟨0, 0, 0, 0, 0, 0, 0, ⟨#[]⟩⟩ : St)) rfl (cells8_one _) ?_
      have HR' := setRow_heap w3 w.heap.size _ (⟨0, 0, 0, 0, 0, 0, 0, ⟨#[]⟩⟩ : St).cells 26 (0, 0) hy0
      have hB9 := (HP3.out.setR (y := (⟨0, 0, 0, 0, 0, 0, 0, ⟨#[]⟩⟩ : St))).b
      obtain ⟨W9, hW9⟩ : ∃ W9, W9 = w3.setRow w.heap.size (⟨0, 0, 0, 0, 0, 0, 0, ⟨#[]⟩⟩ : St).cells := ⟨_, rfl⟩
      rw [← hW9] at HR' hB9 ⊢
      clear hW9 hy0
      go_wp2_with fail
      exact bodyPost_ret (res8p _ _ w.heap.size (⟨0, 0, 0, 0, 0, 0, 0, ⟨#[]⟩⟩ : St) false rfl rfl HR') rfl ⟨.inr ⟨HE.out, (⟨0, 0, 0, 0, 0, 0, 0, ⟨#[]⟩⟩ : St), rfl⟩, hB9⟩

set_option maxHeartbeats 4000000 in
set_option maxRecDepth 100000 in
theorem rparse_1 (s : ByteArray) (hs : s.size ≤ 2000) (hk : kL ((sp s.data.toList).getD 0 []) = 1) (w : World) : Calls Tryz.prog 66 #[.string s] w fun e w' => pP s.data.toList e ∧ Below w.heap.size w w' := by
  have HS := Lib.hid hs
  have HK := Lib.hid hk
  clear hs hk
  go_enter Tryz.func66, Tryz.ntmps66
  go_wp2_with fail
  refine (words_any s (by have := HS.out; omega) _).mono ?_
  rintro _ w1 ⟨⟨v, xs, rfl, hown, hxs⟩, hb1⟩
  have hxn : xs ≠ [] := fun e => sp_ne s.data.toList (by rw [← hxs, e]; rfl)
  have HXn := Lib.hid hxn
  have HXs := Lib.hid hxs
  simp only [World.size_alloc] at hown
  obtain ⟨g, cap, rfl, hpg⟩ := PG.start (w := w) hb1 hown hxn
  have HP := Lib.hid hpg
  have HN := Lib.hid (List.length_pos_iff.2 hxn)
  have H0 : Hid (kL (gx xs 0).data.toList = 1) := Lib.hid (by
    have e : (gx xs 0).data.toList = (sp s.data.toList).getD 0 [] := by
      unfold gx
      rw [← hxs, List.getD_eq_getElem?_getD, List.getD_eq_getElem?_getD, List.getElem?_map]
      cases hx : xs[0]? with
      | none => exact absurd (List.getElem?_eq_none_iff.1 hx) (by have := HN.out; omega)
      | some a => rfl
    rw [e]; exact HK.out)
  clear hown hb1 hpg hxn hxs
  obtain ⟨T, hT⟩ : ∃ T, w1.heap.size = T := ⟨_, rfl⟩
  go_upto_region 3 with fail
  rw [hT] at HP
  obtain ⟨W2, hW2⟩ : ∃ W2, W2 = w1.alloc (.cells St0.cells 26) := ⟨_, rfl⟩
  have HP2 : Hid (PG w W2 T g xs St0) := by rw [hW2]; exact HP
  rw [show w1.alloc (.cells #[.int .i64 0, .int .i64 0, .int .i64 0, .int .i64 0, .int .i64 0, .int .u64 0, .int .u64 0, .string ⟨#[]⟩] 26) = W2 from hW2.symm]
  have hn0 : (0 : Int) < (xs.length : Int) := by have := HN.out; omega
  clear hW2 HP hT
  go_wp2_with fail
  go_loopw [6] (fun i wr => ∃ kq : Nat, i = .int .i64 (kq : Int) ∧ 1 ≤ kq ∧ kq ≤ 9 ∧ Hid (PG w wr T g xs (stK (kx 1 kq)))) (fun i _ => 9 - (RowKit.intOf i).toNat)
  case atStart => exact ⟨1, rfl, by omega, by omega, HP2⟩
  case round =>
    obtain ⟨kq, rfl, hk1, hk9, HP⟩ := hrel
    clear HP2
    by_cases h8 : kq ≤ 8
    · have hk8 : (kq : Int) ≤ 8 := by omega
      have hk0 : (0 : Int) ≤ (kq : Int) := by omega
      go_upto_region 6 with fail
      refine wp_region_held_drew (S := fun V => PG w V T g xs (stK (kx 1 kq))) (by kernel_rfl) (HP.out.below (Below.refl _ _).drew) (fun hHeld => ?_)
      refine wpAnyH_take (i := 0) (oi := _) (v := ?_) rfl (by kernel_rfl) (by kernel_rfl) (by kernel_rfl) (fun _ _ _ h => h) (Or.inl ⟨by rfl, ?_⟩) (by assumption) ?_
      rotate_left
      · (intro W hSw; obtain ⟨⟨c0, c1, c2, c3, c4, c5, c6, c7⟩, _⟩ := PG.cells hSw; have w0 := PG.row hSw 0 HN.out; have hn0n := HN.out; go_simp; try with_reducible rfl)
      try simp only [Act.put, List.getElem_toArray, List.getElem_cons_zero, List.setIfInBounds_toArray, List.set_cons_zero, List.set_cons_succ]
      refine wpAnyH_take (i := 2) (oi := _) (v := ?_) rfl (by kernel_rfl) (by kernel_rfl) (by kernel_rfl) (fun _ _ _ h => h) (Or.inl ⟨by rfl, ?_⟩) (by assumption) ?_
      rotate_left
      · (intro W hSw; obtain ⟨⟨c0, c1, c2, c3, c4, c5, c6, c7⟩, _⟩ := PG.cells hSw; have w0 := PG.row hSw 0 HN.out; have hn0n := HN.out; go_simp; try with_reducible rfl)
      try simp only [Act.put, List.getElem_toArray, List.getElem_cons_succ, List.getElem_cons_zero, List.setIfInBounds_toArray, List.set_cons_zero, List.set_cons_succ]
      refine wpAnyH_take (i := 3) (oi := _) (v := ?_) rfl (by kernel_rfl) (by kernel_rfl) (by kernel_rfl) (fun _ _ _ h => h) (Or.inl ⟨by rfl, ?_⟩) (by assumption) ?_
      rotate_left
      · (intro W hSw; obtain ⟨⟨c0, c1, c2, c3, c4, c5, c6, c7⟩, _⟩ := PG.cells hSw; have w0 := PG.row hSw 0 HN.out; have hn0n := HN.out; go_simp; try with_reducible rfl)
      try simp only [Act.put, List.getElem_toArray, List.getElem_cons_succ, List.getElem_cons_zero, List.setIfInBounds_toArray, List.set_cons_zero, List.set_cons_succ]
      refine wpAnyH_take (i := 4) (oi := _) (v := ?_) rfl (by kernel_rfl) (by kernel_rfl) (by kernel_rfl) (fun _ _ _ h => h) (Or.inl ⟨by rfl, ?_⟩) (by assumption) ?_
      rotate_left
      · (intro W hSw; obtain ⟨⟨c0, c1, c2, c3, c4, c5, c6, c7⟩, _⟩ := PG.cells hSw; have w0 := PG.row hSw 0 HN.out; have hn0n := HN.out; go_simp; try with_reducible rfl)
      try simp only [Act.put, List.getElem_toArray, List.getElem_cons_succ, List.getElem_cons_zero, List.setIfInBounds_toArray, List.set_cons_zero, List.set_cons_succ]
      refine wpAnyH_ready (rs := [1]) (by kernel_rfl) (by simp) ?_
      refine AllReadyH.cons rfl (fun K hK => ?_) AllReadyH.nil
      simp only [List.getElem_toArray, List.getElem_cons_succ, List.getElem_cons_zero]
      rw [if_pos (by rfl)]
      go_simp
      refine (rword_any kq hk1 h8 _).mono ?_
      rintro _ wb ⟨rfl, hb⟩
      go_wp2_with fail
      refine hK.out _ _ (PG.below hHeld hb) (fun hHeld => ?_)
      clear hK K
      try simp only [Act.put, List.getElem_toArray, List.getElem_cons_succ, List.getElem_cons_zero, List.setIfInBounds_toArray, List.set_cons_zero, List.set_cons_succ]
      refine wpAnyH_take (i := 5) (oi := _) (v := ?_) rfl (by kernel_rfl) (by kernel_rfl) (by kernel_rfl) (fun _ _ _ h => h) (Or.inl ⟨by rfl, ?_⟩) (by assumption) ?_
      rotate_left
      · (intro W hSw; obtain ⟨⟨c0, c1, c2, c3, c4, c5, c6, c7⟩, _⟩ := PG.cells hSw; have w0 := PG.row hSw 0 HN.out; have hn0n := HN.out; go_simp; try with_reducible rfl)
      try simp only [Act.put, List.getElem_toArray, List.getElem_cons_succ, List.getElem_cons_zero, List.setIfInBounds_toArray, List.set_cons_zero, List.set_cons_succ]
      refine wpAnyH_done (by kernel_rfl) ?_ _
      have HPb := Lib.hid hHeld
      clear hHeld HP
      by_cases he : kq = 1
      · subst he
        have e1 : ((wdB 1).toList == (gx xs 0).toList) = true := by
          rw [beq_iff_eq, ByteArray.toList_eq, ByteArray.toList_eq, wd_kL H0.out (by decide)]; rfl
        rw [e1]
        clear e1
        obtain ⟨⟨c0, c1, c2, c3, c4, c5, c6, c7⟩, z0, z1, z2, z3, z4, z6, z7⟩ := HPb.out.cells
        have hgT := HPb.out.hT
        clear hk1 hk9 h8 hk8 hk0
        go_wp2
        go_roundw
        case rel => exact ⟨1 + 1, by go_num, by omega, by omega, Lib.hid (HPb.out.set 0 _ rfl)⟩
        case measure => simp [RowKit.intOf]
      have e1 : ((wdB kq).toList == (gx xs 0).toList) = false := tl_ne fun e => he (by
        have := H0.out
        rw [← e] at this
        exact (kL_first hk1 h8 (by simp [wdB])).symm.trans this)
      rw [← kx_ne he] at HPb
      have HE9 := Lib.hid (And.intro hk1 h8)
      clear he hk1 hk9 h8
      rw [e1]
      clear e1
      go_wp2
      go_roundw
      case rel => exact ⟨kq + 1, by go_num, by omega, by have := HE9.out; omega, HPb⟩
      case measure => have := HE9.out; simp [RowKit.intOf]; omega
    · obtain rfl : kq = 9 := by omega
      rw [show stK (kx 1 9) = (⟨1, 0, 0, 0, 0, 0, 0, ⟨#[]⟩⟩ : St) from rfl] at HP
      clear h8 hk1 hk9
      obtain ⟨⟨c0, c1, c2, c3, c4, c5, c6, c7⟩, z0, z1, z2, z3, z4, z6, z7⟩ := HP.out.cells
      dsimp only at c0 c1 c2 c3 c4 c5 c6 c7
      go_wp2_with fail
      refine (St15.has_1 _).mono ?_
      rintro _ w3 ⟨rfl, hb3⟩
      have HP3 := Lib.hid (HP.out.below hb3)
      clear hb3 HP
      clear c0 c1 c2 c3 c4 c5 c6 c7 z0 z1 z2 z3 z4 z6 z7
      obtain ⟨⟨c0, c1, c2, c3, c4, c5, c6, c7⟩, z0, z1, z2, z3, z4, z6, z7⟩ := HP3.out.cells
      dsimp only at c0 c1 c2 c3 c4 c5 c6 c7
      go_wp2_with fail
      refine (St15.in_n_112 _).mono ?_
      rintro _ wq ⟨rfl, hq⟩
      obtain rfl := hq.symm
      clear hq
      by_cases hm : xs.length = 2
      · have hm1 : ((xs.length : Int) == 2) = true := by rw [hm]; rfl
        have hm2 : ((xs.length : Int) != 2) = false := by rw [hm]; rfl
        have HM := Lib.hid hm
        clear hm
        go_wp2_with fail
        refine (St15.in_n_115 _).mono ?_
        rintro _ wq ⟨rfl, hq⟩
        obtain rfl := hq.symm
        clear hq
        go_wp2_with fail
        refine (in_n_110 _).mono ?_
        rintro _ wq ⟨rfl, hq⟩
        obtain rfl := hq.symm
        clear hq
        cases hsn : sm (gx xs 1).data.toList 2147483647 with
        | none =>
          go_upto_region 20 with fail
          clear c0 c1 c2 c3 c4 c5 c6 c7 z0 z1 z2 z3 z4 z6 z7
          have HLt := Lib.hid (show 1 < xs.length by have := HM.out; omega)
          have HLi := Lib.hid (show (1 : Int) < (xs.length : Int) by have := HLt.out; omega)
          have HAt := Lib.hid (show (0 : Int) ≤ 1 by decide)
          have HQ := Lib.hid (HP3.out.below (Below.refl _ _).drew)
          refine wp_region_held_drew (S := fun V => ∃ yy : St, yy.k = 1 ∧ PG w V T g xs yy) (by kernel_rfl) ⟨_, rfl, HQ.out⟩ (fun hHeld => ?_)
          obtain ⟨Wq, hWq⟩ : ∃ Wq, Wq = w3.drew := ⟨_, rfl⟩
          rw [← hWq] at HQ hHeld ⊢
          clear hWq
          refine wpAnyH_take (i := 0) (oi := _) (v := ?_) rfl (by kernel_rfl) (by kernel_rfl) (by kernel_rfl) (fun _ _ _ h => h) (Or.inl ⟨by rfl, ?_⟩) (by assumption) ?_
          rotate_left
          · (intro W hSw; obtain ⟨yy, hyk, hSw⟩ := hSw; obtain ⟨⟨c0, c1, c2, c3, c4, c5, c6, c7⟩, z0, z1, z2, z3, z4, z6, z7⟩ := PG.cells hSw; rw [hyk] at c0; have hgT := PG.hT hSw; have wa := PG.row hSw 1 HLt.out; have hlt := HLt.out; have hlti := HLi.out; have hat := HAt.out; go_simp; try with_reducible rfl)
          try simp only [Act.put, List.getElem_toArray, List.getElem_cons_zero, List.setIfInBounds_toArray, List.set_cons_zero, List.set_cons_succ]
          refine wpAnyH_take (i := 1) (oi := _) (v := ?_) rfl (by kernel_rfl) (by kernel_rfl) (by kernel_rfl) (fun _ _ _ h => h) (Or.inl ⟨by rfl, ?_⟩) (by assumption) ?_
          rotate_left
          · (intro W hSw; obtain ⟨yy, hyk, hSw⟩ := hSw; obtain ⟨⟨c0, c1, c2, c3, c4, c5, c6, c7⟩, z0, z1, z2, z3, z4, z6, z7⟩ := PG.cells hSw; rw [hyk] at c0; have hgT := PG.hT hSw; have wa := PG.row hSw 1 HLt.out; have hlt := HLt.out; have hlti := HLi.out; have hat := HAt.out; go_simp; try with_reducible rfl)
          try simp only [Act.put, List.getElem_toArray, List.getElem_cons_succ, List.getElem_cons_zero, List.setIfInBounds_toArray, List.set_cons_zero, List.set_cons_succ]
          refine wpAnyH_take (i := 2) (oi := _) (v := ?_) rfl (by kernel_rfl) (by kernel_rfl) (by kernel_rfl) (fun _ _ _ h => h) (Or.inl ⟨by rfl, ?_⟩) (by assumption) ?_
          rotate_left
          · (intro W hSw; obtain ⟨yy, hyk, hSw⟩ := hSw; obtain ⟨⟨c0, c1, c2, c3, c4, c5, c6, c7⟩, z0, z1, z2, z3, z4, z6, z7⟩ := PG.cells hSw; rw [hyk] at c0; have hgT := PG.hT hSw; have wa := PG.row hSw 1 HLt.out; have hlt := HLt.out; have hlti := HLi.out; have hat := HAt.out; go_simp; try with_reducible rfl)
          try simp only [Act.put, List.getElem_toArray, List.getElem_cons_succ, List.getElem_cons_zero, List.setIfInBounds_toArray, List.set_cons_zero, List.set_cons_succ]
          refine wpAnyH_take (i := 3) (oi := _) (v := ?_) rfl (by kernel_rfl) (by kernel_rfl) (by kernel_rfl) (fun _ _ _ h => h) (Or.inl ⟨by rfl, ?_⟩) (by assumption) ?_
          rotate_left
          · (intro W hSw; obtain ⟨yy, hyk, hSw⟩ := hSw; obtain ⟨⟨c0, c1, c2, c3, c4, c5, c6, c7⟩, z0, z1, z2, z3, z4, z6, z7⟩ := PG.cells hSw; rw [hyk] at c0; have hgT := PG.hT hSw; have wa := PG.row hSw 1 HLt.out; have hlt := HLt.out; have hlti := HLi.out; have hat := HAt.out; go_simp; try with_reducible rfl)
          try simp only [Act.put, List.getElem_toArray, List.getElem_cons_succ, List.getElem_cons_zero, List.setIfInBounds_toArray, List.set_cons_zero, List.set_cons_succ]
          refine wpAnyH_take (i := 4) (oi := _) (v := ?_) rfl (by kernel_rfl) (by kernel_rfl) (by kernel_rfl) (fun _ _ _ h => h) (Or.inl ⟨by rfl, ?_⟩) (by assumption) ?_
          rotate_left
          · (intro W hSw; obtain ⟨yy, hyk, hSw⟩ := hSw; obtain ⟨⟨c0, c1, c2, c3, c4, c5, c6, c7⟩, z0, z1, z2, z3, z4, z6, z7⟩ := PG.cells hSw; rw [hyk] at c0; have hgT := PG.hT hSw; have wa := PG.row hSw 1 HLt.out; have hlt := HLt.out; have hlti := HLi.out; have hat := HAt.out; go_simp; try with_reducible rfl)
          try simp only [Act.put, List.getElem_toArray, List.getElem_cons_succ, List.getElem_cons_zero, List.setIfInBounds_toArray, List.set_cons_zero, List.set_cons_succ]
          refine wpAnyH_take (i := 5) (oi := _) (v := ?_) rfl (by kernel_rfl) (by kernel_rfl) (by kernel_rfl) (fun _ _ _ h => h) (Or.inl ⟨by rfl, ?_⟩) (by assumption) ?_
          rotate_left
          · (intro W hSw; obtain ⟨yy, hyk, hSw⟩ := hSw; obtain ⟨⟨c0, c1, c2, c3, c4, c5, c6, c7⟩, z0, z1, z2, z3, z4, z6, z7⟩ := PG.cells hSw; rw [hyk] at c0; have hgT := PG.hT hSw; have wa := PG.row hSw 1 HLt.out; have hlt := HLt.out; have hlti := HLi.out; have hat := HAt.out; go_simp; try with_reducible rfl)
          try simp only [Act.put, List.getElem_toArray, List.getElem_cons_succ, List.getElem_cons_zero, List.setIfInBounds_toArray, List.set_cons_zero, List.set_cons_succ]
          refine wpAnyH_ready (rs := [6]) (by kernel_rfl) (by simp) ?_
          refine AllReadyH.cons rfl (fun K hK => ?_) AllReadyH.nil
          simp only [List.getElem_toArray, List.getElem_cons_succ, List.getElem_cons_zero]
          rw [if_pos (by rfl)]
          go_simp
          refine (St15.most_1' _).mono ?_
          rintro _ wm ⟨rfl, hwm⟩
          obtain rfl := hwm.symm
          go_wp2_with fail
          refine hK.out _ _ hHeld (fun hHeld => ?_)
          clear hK K
          try simp only [Act.put, List.getElem_toArray, List.getElem_cons_succ, List.getElem_cons_zero, List.setIfInBounds_toArray, List.set_cons_zero, List.set_cons_succ]
          refine wpAnyH_ready (rs := [7]) (by kernel_rfl) (by simp) ?_
          refine AllReadyH.cons rfl (fun K hK => ?_) AllReadyH.nil
          simp only [List.getElem_toArray, List.getElem_cons_succ, List.getElem_cons_zero]
          rw [if_pos (by rfl)]
          go_simp
          refine (small_none (m := 2147483647) hsn (by have := xs_sz HXs.out 1; have := HS.out; omega) (by decide) _).mono ?_
          rintro _ wm ⟨rfl, hwm2⟩
          obtain rfl := hwm2.symm
          go_wp2_with fail
          refine hK.out _ _ hHeld (fun hHeld => ?_)
          clear hK K
          try simp only [Act.put, List.getElem_toArray, List.getElem_cons_succ, List.getElem_cons_zero, List.setIfInBounds_toArray, List.set_cons_zero, List.set_cons_succ]
          refine wpAnyH_take (i := 8) (oi := _) (v := ?_) rfl (by kernel_rfl) (by kernel_rfl) (by kernel_rfl) (fun _ _ _ h => h) (Or.inl ⟨by rfl, ?_⟩) (by assumption) ?_
          rotate_left
          · (intro W hSw; obtain ⟨yy, hyk, hSw⟩ := hSw; obtain ⟨⟨c0, c1, c2, c3, c4, c5, c6, c7⟩, z0, z1, z2, z3, z4, z6, z7⟩ := PG.cells hSw; rw [hyk] at c0; have hgT := PG.hT hSw; have wa := PG.row hSw 1 HLt.out; have hlt := HLt.out; have hlti := HLi.out; have hat := HAt.out; go_simp; try with_reducible rfl)
          try simp only [Act.put, List.getElem_toArray, List.getElem_cons_succ, List.getElem_cons_zero, List.setIfInBounds_toArray, List.set_cons_zero, List.set_cons_succ]
          refine wpAnyH_take (i := 9) (oi := _) (v := ?_) rfl (by kernel_rfl) (by kernel_rfl) (by kernel_rfl) (fun _ _ _ h => h) (Or.inl ⟨by rfl, ?_⟩) (by assumption) ?_
          rotate_left
          · (intro W hSw; obtain ⟨yy, hyk, hSw⟩ := hSw; obtain ⟨⟨c0, c1, c2, c3, c4, c5, c6, c7⟩, z0, z1, z2, z3, z4, z6, z7⟩ := PG.cells hSw; rw [hyk] at c0; have hgT := PG.hT hSw; have wa := PG.row hSw 1 HLt.out; have hlt := HLt.out; have hlti := HLi.out; have hat := HAt.out; go_simp; try with_reducible rfl)
          try simp only [Act.put, List.getElem_toArray, List.getElem_cons_succ, List.getElem_cons_zero, List.setIfInBounds_toArray, List.set_cons_zero, List.set_cons_succ]
          refine wpAnyH_take (i := 10) (oi := _) (v := ?_) rfl (by kernel_rfl) (by kernel_rfl) (by kernel_rfl) (fun _ _ _ h => h) (Or.inl ⟨by rfl, ?_⟩) (by assumption) ?_
          rotate_left
          · (intro W hSw; obtain ⟨yy, hyk, hSw⟩ := hSw; obtain ⟨⟨c0, c1, c2, c3, c4, c5, c6, c7⟩, z0, z1, z2, z3, z4, z6, z7⟩ := PG.cells hSw; rw [hyk] at c0; have hgT := PG.hT hSw; have wa := PG.row hSw 1 HLt.out; have hlt := HLt.out; have hlti := HLi.out; have hat := HAt.out; go_simp; try with_reducible rfl)
          try simp only [Act.put, List.getElem_toArray, List.getElem_cons_succ, List.getElem_cons_zero, List.setIfInBounds_toArray, List.set_cons_zero, List.set_cons_succ]
          refine wpAnyH_take (i := 11) (oi := _) (v := ?_) rfl (by kernel_rfl) (by kernel_rfl) (by kernel_rfl) (fun _ _ _ h => h) (Or.inl ⟨by rfl, ?_⟩) (by assumption) ?_
          rotate_left
          · (intro W hSw; obtain ⟨yy, hyk, hSw⟩ := hSw; obtain ⟨⟨c0, c1, c2, c3, c4, c5, c6, c7⟩, z0, z1, z2, z3, z4, z6, z7⟩ := PG.cells hSw; rw [hyk] at c0; have hgT := PG.hT hSw; have wa := PG.row hSw 1 HLt.out; have hlt := HLt.out; have hlti := HLi.out; have hat := HAt.out; go_simp; try with_reducible rfl)
          try simp only [Act.put, List.getElem_toArray, List.getElem_cons_succ, List.getElem_cons_zero, List.setIfInBounds_toArray, List.set_cons_zero, List.set_cons_succ]
          obtain ⟨⟨c0, c1, c2, c3, c4, c5, c6, c7⟩, z0, z1, z2, z3, z4, z6, z7⟩ := HQ.out.cells
          have hgT := HQ.out.hT
          have HQ2 := Lib.hid (HQ.out.set (x' := (⟨1, 0, 0, 0, 0, 0, 0, ⟨#[]⟩⟩ : St)) 2 (.int .i64 0) rfl)
          refine wpAnyH_ready (rs := [12]) (by kernel_rfl) (by simp) ?_
          refine AllReadyH.cons rfl (fun K hK => ?_) AllReadyH.nil
          simp only [List.getElem_toArray, List.getElem_cons_succ, List.getElem_cons_zero]
          rw [if_pos (by rfl)]
          go_simp
          refine hK.out _ _ ⟨_, rfl, HQ2.out⟩ (fun hHeld => ?_)
          clear hK K
          try simp only [Act.put, List.getElem_toArray, List.getElem_cons_succ, List.getElem_cons_zero, List.setIfInBounds_toArray, List.set_cons_zero, List.set_cons_succ]
          generalize Wq.setCell _ _ = Wqn at HQ2 hHeld ⊢
          clear c0 c1 c2 c3 c4 c5 c6 c7 z0 z1 z2 z3 z4 z6 z7 HQ hgT
          refine wpAnyH_take (i := 13) (oi := _) (v := ?_) rfl (by kernel_rfl) (by kernel_rfl) (by kernel_rfl) (fun _ _ _ h => h) (Or.inl ⟨by rfl, ?_⟩) (by assumption) ?_
          rotate_left
          · (intro W hSw; skip; go_simp; try with_reducible rfl)
          try simp only [Act.put, List.getElem_toArray, List.getElem_cons_succ, List.getElem_cons_zero, List.setIfInBounds_toArray, List.set_cons_zero, List.set_cons_succ]
          refine wpAnyH_done (by kernel_rfl) ?_ _
          clear hHeld
          obtain ⟨⟨c0, c1, c2, c3, c4, c5, c6, c7⟩, z0, z1, z2, z3, z4, z6, z7⟩ := HQ2.out.cells
          dsimp only at c0 c1 c2 c3 c4 c5 c6 c7
          go_wp2_with fail
          refine (St15.in_n_112 _).mono ?_
          rintro _ wq ⟨rfl, hq⟩
          obtain rfl := hq.symm
          clear hq
          have HE := Lib.hid (show strict (sp s.data.toList) = none by rw [strict_two (k := 1) HK.out (by decide) (show sp s.data.toList = _ by rw [← HXs.out]; exact two2 HM.out), show mxN 1 = 2147483647 from rfl, hsn]; rfl)
          go_upto_region 28 with fail
          clear c0 c1 c2 c3 c4 c5 c6 c7 z0 z1 z2 z3 z4 z6 z7
          refine wp_region_held_drew (S := fun V => PG w V T g xs (⟨1, 0, 0, 0, 0, 0, 0, ⟨#[]⟩⟩ : St)) (by kernel_rfl) (HQ2.out.below (Below.refl _ _).drew) (fun hHeld => ?_)
          refine wpAnyH_take (i := 0) (oi := _) (v := ?_) rfl (by kernel_rfl) (by kernel_rfl) (by kernel_rfl) (fun _ _ _ h => h) (Or.inl ⟨by rfl, ?_⟩) (by assumption) ?_
          rotate_left
          · (intro W hSw; obtain ⟨⟨c0, c1, c2, c3, c4, c5, c6, c7⟩, _⟩ := PG.cells hSw; dsimp only at c0 c1 c2 c3 c4 c5 c6 c7; have hgT := PG.hT hSw; have hgw := PG.hg hSw; go_simp; try with_reducible rfl)
          try simp only [Act.put, List.getElem_toArray, List.getElem_cons_zero, List.setIfInBounds_toArray, List.set_cons_zero, List.set_cons_succ]
          refine wpAnyH_take (i := 1) (oi := _) (v := ?_) rfl (by kernel_rfl) (by kernel_rfl) (by kernel_rfl) (fun _ _ _ h => h) (Or.inl ⟨by rfl, ?_⟩) (by assumption) ?_
          rotate_left
          · (intro W hSw; obtain ⟨⟨c0, c1, c2, c3, c4, c5, c6, c7⟩, _⟩ := PG.cells hSw; dsimp only at c0 c1 c2 c3 c4 c5 c6 c7; have hgT := PG.hT hSw; have hgw := PG.hg hSw; go_simp; try with_reducible rfl)
          try simp only [Act.put, List.getElem_toArray, List.getElem_cons_succ, List.getElem_cons_zero, List.setIfInBounds_toArray, List.set_cons_zero, List.set_cons_succ]
          refine wpAnyH_take (i := 2) (oi := _) (v := ?_) rfl (by kernel_rfl) (by kernel_rfl) (by kernel_rfl) (fun _ _ _ h => h) (Or.inl ⟨by rfl, ?_⟩) (by assumption) ?_
          rotate_left
          · (intro W hSw; obtain ⟨⟨c0, c1, c2, c3, c4, c5, c6, c7⟩, _⟩ := PG.cells hSw; dsimp only at c0 c1 c2 c3 c4 c5 c6 c7; have hgT := PG.hT hSw; have hgw := PG.hg hSw; go_simp; try with_reducible rfl)
          try simp only [Act.put, List.getElem_toArray, List.getElem_cons_succ, List.getElem_cons_zero, List.setIfInBounds_toArray, List.set_cons_zero, List.set_cons_succ]
          refine wpAnyH_take (i := 3) (oi := _) (v := undef) rfl (by kernel_rfl) (by kernel_rfl) (by kernel_rfl) (fun _ _ _ h => h) (Or.inr ⟨by rfl, rfl⟩) (by assumption) ?_
          try simp only [Act.put, List.getElem_toArray, List.getElem_cons_succ, List.getElem_cons_zero, List.setIfInBounds_toArray, List.set_cons_zero, List.set_cons_succ]
          refine wpAnyH_take (i := 4) (oi := _) (v := undef) rfl (by kernel_rfl) (by kernel_rfl) (by kernel_rfl) (fun _ _ _ h => h) (Or.inr ⟨by rfl, rfl⟩) (by assumption) ?_
          try simp only [Act.put, List.getElem_toArray, List.getElem_cons_succ, List.getElem_cons_zero, List.setIfInBounds_toArray, List.set_cons_zero, List.set_cons_succ]
          refine wpAnyH_take (i := 5) (oi := _) (v := ?_) rfl (by kernel_rfl) (by kernel_rfl) (by kernel_rfl) (fun _ _ _ h => h) (Or.inl ⟨by rfl, ?_⟩) (by assumption) ?_
          rotate_left
          · (intro W hSw; obtain ⟨⟨c0, c1, c2, c3, c4, c5, c6, c7⟩, _⟩ := PG.cells hSw; dsimp only at c0 c1 c2 c3 c4 c5 c6 c7; have hgT := PG.hT hSw; have hgw := PG.hg hSw; go_simp; try with_reducible rfl)
          try simp only [Act.put, List.getElem_toArray, List.getElem_cons_succ, List.getElem_cons_zero, List.setIfInBounds_toArray, List.set_cons_zero, List.set_cons_succ]
          obtain ⟨y0, hy0⟩ := PG.r hHeld
          have HRr := Lib.hid (setRow_heap (Wqn.drew) w.heap.size _ (⟨1, 0, 0, 0, 0, 0, 0, ⟨#[]⟩⟩ : St).cells 26 (0, 0) hy0)
          refine wpAnyH_ready (rs := [6]) (by kernel_rfl) (by simp) ?_
          refine AllReadyH.cons rfl (fun K hK => ?_) AllReadyH.nil
          simp only [List.getElem_toArray, List.getElem_cons_succ, List.getElem_cons_zero]
          rw [if_pos (by rfl)]
          refine wp_store_row 26 _ _ rfl w.heap.size (⟨1, 0, 0, 0, 0, 0, 0, ⟨#[]⟩⟩ : St).cells rfl rfl 26 _ hy0 (hi8 (⟨1, 0, 0, 0, 0, 0, 0, ⟨#[]⟩⟩ : St)) rfl (cells8_one _) ?_
          refine hK.out _ _ (PG.setR hHeld) (fun hHeld => ?_)
          clear hK K
          try simp only [Act.put, List.setIfInBounds_toArray, List.set_cons_zero, List.set_cons_succ]
          refine wpAnyH_take (i := 7) (oi := _) (v := ?_) rfl (by kernel_rfl) (by kernel_rfl) (by kernel_rfl) (fun _ _ _ h => h) (Or.inl ⟨by rfl, ?_⟩) (by assumption) ?_
          rotate_left
          · (intro W hSw; skip; go_simp; try with_reducible rfl)
          try simp only [Act.put, List.getElem_toArray, List.getElem_cons_succ, List.getElem_cons_zero, List.setIfInBounds_toArray, List.set_cons_zero, List.set_cons_succ]
          refine wpAnyH_done (by kernel_rfl) ?_ _
          have hB9 := PG.b hHeld
          obtain ⟨W9, hW9⟩ : ∃ W9, W9 = (Wqn.drew).setRow w.heap.size (⟨1, 0, 0, 0, 0, 0, 0, ⟨#[]⟩⟩ : St).cells := ⟨_, rfl⟩
          have HR' := HRr.out
          rw [← hW9] at HR' hB9 ⊢
          clear hW9 hy0 hHeld HRr
          go_wp2_with fail
          exact bodyPost_ret (res8p _ _ w.heap.size (⟨1, 0, 0, 0, 0, 0, 0, ⟨#[]⟩⟩ : St) false rfl rfl HR') rfl ⟨.inr ⟨HE.out, (⟨1, 0, 0, 0, 0, 0, 0, ⟨#[]⟩⟩ : St), rfl⟩, hB9⟩
        | some un =>
          go_upto_region 20 with fail
          clear c0 c1 c2 c3 c4 c5 c6 c7 z0 z1 z2 z3 z4 z6 z7
          have HLt := Lib.hid (show 1 < xs.length by have := HM.out; omega)
          have HLi := Lib.hid (show (1 : Int) < (xs.length : Int) by have := HLt.out; omega)
          have HAt := Lib.hid (show (0 : Int) ≤ 1 by decide)
          have HQ := Lib.hid (HP3.out.below (Below.refl _ _).drew)
          refine wp_region_held_drew (S := fun V => ∃ yy : St, yy.k = 1 ∧ PG w V T g xs yy) (by kernel_rfl) ⟨_, rfl, HQ.out⟩ (fun hHeld => ?_)
          obtain ⟨Wq, hWq⟩ : ∃ Wq, Wq = w3.drew := ⟨_, rfl⟩
          rw [← hWq] at HQ hHeld ⊢
          clear hWq
          refine wpAnyH_take (i := 0) (oi := _) (v := ?_) rfl (by kernel_rfl) (by kernel_rfl) (by kernel_rfl) (fun _ _ _ h => h) (Or.inl ⟨by rfl, ?_⟩) (by assumption) ?_
          rotate_left
          · (intro W hSw; obtain ⟨yy, hyk, hSw⟩ := hSw; obtain ⟨⟨c0, c1, c2, c3, c4, c5, c6, c7⟩, z0, z1, z2, z3, z4, z6, z7⟩ := PG.cells hSw; rw [hyk] at c0; have hgT := PG.hT hSw; have wa := PG.row hSw 1 HLt.out; have hlt := HLt.out; have hlti := HLi.out; have hat := HAt.out; go_simp; try with_reducible rfl)
          try simp only [Act.put, List.getElem_toArray, List.getElem_cons_zero, List.setIfInBounds_toArray, List.set_cons_zero, List.set_cons_succ]
          refine wpAnyH_take (i := 1) (oi := _) (v := ?_) rfl (by kernel_rfl) (by kernel_rfl) (by kernel_rfl) (fun _ _ _ h => h) (Or.inl ⟨by rfl, ?_⟩) (by assumption) ?_
          rotate_left
          · (intro W hSw; obtain ⟨yy, hyk, hSw⟩ := hSw; obtain ⟨⟨c0, c1, c2, c3, c4, c5, c6, c7⟩, z0, z1, z2, z3, z4, z6, z7⟩ := PG.cells hSw; rw [hyk] at c0; have hgT := PG.hT hSw; have wa := PG.row hSw 1 HLt.out; have hlt := HLt.out; have hlti := HLi.out; have hat := HAt.out; go_simp; try with_reducible rfl)
          try simp only [Act.put, List.getElem_toArray, List.getElem_cons_succ, List.getElem_cons_zero, List.setIfInBounds_toArray, List.set_cons_zero, List.set_cons_succ]
          refine wpAnyH_take (i := 2) (oi := _) (v := ?_) rfl (by kernel_rfl) (by kernel_rfl) (by kernel_rfl) (fun _ _ _ h => h) (Or.inl ⟨by rfl, ?_⟩) (by assumption) ?_
          rotate_left
          · (intro W hSw; obtain ⟨yy, hyk, hSw⟩ := hSw; obtain ⟨⟨c0, c1, c2, c3, c4, c5, c6, c7⟩, z0, z1, z2, z3, z4, z6, z7⟩ := PG.cells hSw; rw [hyk] at c0; have hgT := PG.hT hSw; have wa := PG.row hSw 1 HLt.out; have hlt := HLt.out; have hlti := HLi.out; have hat := HAt.out; go_simp; try with_reducible rfl)
          try simp only [Act.put, List.getElem_toArray, List.getElem_cons_succ, List.getElem_cons_zero, List.setIfInBounds_toArray, List.set_cons_zero, List.set_cons_succ]
          refine wpAnyH_take (i := 3) (oi := _) (v := ?_) rfl (by kernel_rfl) (by kernel_rfl) (by kernel_rfl) (fun _ _ _ h => h) (Or.inl ⟨by rfl, ?_⟩) (by assumption) ?_
          rotate_left
          · (intro W hSw; obtain ⟨yy, hyk, hSw⟩ := hSw; obtain ⟨⟨c0, c1, c2, c3, c4, c5, c6, c7⟩, z0, z1, z2, z3, z4, z6, z7⟩ := PG.cells hSw; rw [hyk] at c0; have hgT := PG.hT hSw; have wa := PG.row hSw 1 HLt.out; have hlt := HLt.out; have hlti := HLi.out; have hat := HAt.out; go_simp; try with_reducible rfl)
          try simp only [Act.put, List.getElem_toArray, List.getElem_cons_succ, List.getElem_cons_zero, List.setIfInBounds_toArray, List.set_cons_zero, List.set_cons_succ]
          refine wpAnyH_take (i := 4) (oi := _) (v := ?_) rfl (by kernel_rfl) (by kernel_rfl) (by kernel_rfl) (fun _ _ _ h => h) (Or.inl ⟨by rfl, ?_⟩) (by assumption) ?_
          rotate_left
          · (intro W hSw; obtain ⟨yy, hyk, hSw⟩ := hSw; obtain ⟨⟨c0, c1, c2, c3, c4, c5, c6, c7⟩, z0, z1, z2, z3, z4, z6, z7⟩ := PG.cells hSw; rw [hyk] at c0; have hgT := PG.hT hSw; have wa := PG.row hSw 1 HLt.out; have hlt := HLt.out; have hlti := HLi.out; have hat := HAt.out; go_simp; try with_reducible rfl)
          try simp only [Act.put, List.getElem_toArray, List.getElem_cons_succ, List.getElem_cons_zero, List.setIfInBounds_toArray, List.set_cons_zero, List.set_cons_succ]
          refine wpAnyH_take (i := 5) (oi := _) (v := ?_) rfl (by kernel_rfl) (by kernel_rfl) (by kernel_rfl) (fun _ _ _ h => h) (Or.inl ⟨by rfl, ?_⟩) (by assumption) ?_
          rotate_left
          · (intro W hSw; obtain ⟨yy, hyk, hSw⟩ := hSw; obtain ⟨⟨c0, c1, c2, c3, c4, c5, c6, c7⟩, z0, z1, z2, z3, z4, z6, z7⟩ := PG.cells hSw; rw [hyk] at c0; have hgT := PG.hT hSw; have wa := PG.row hSw 1 HLt.out; have hlt := HLt.out; have hlti := HLi.out; have hat := HAt.out; go_simp; try with_reducible rfl)
          try simp only [Act.put, List.getElem_toArray, List.getElem_cons_succ, List.getElem_cons_zero, List.setIfInBounds_toArray, List.set_cons_zero, List.set_cons_succ]
          refine wpAnyH_ready (rs := [6]) (by kernel_rfl) (by simp) ?_
          refine AllReadyH.cons rfl (fun K hK => ?_) AllReadyH.nil
          simp only [List.getElem_toArray, List.getElem_cons_succ, List.getElem_cons_zero]
          rw [if_pos (by rfl)]
          go_simp
          refine (St15.most_1' _).mono ?_
          rintro _ wm ⟨rfl, hwm⟩
          obtain rfl := hwm.symm
          go_wp2_with fail
          refine hK.out _ _ hHeld (fun hHeld => ?_)
          clear hK K
          try simp only [Act.put, List.getElem_toArray, List.getElem_cons_succ, List.getElem_cons_zero, List.setIfInBounds_toArray, List.set_cons_zero, List.set_cons_succ]
          refine wpAnyH_ready (rs := [7]) (by kernel_rfl) (by simp) ?_
          refine AllReadyH.cons rfl (fun K hK => ?_) AllReadyH.nil
          simp only [List.getElem_toArray, List.getElem_cons_succ, List.getElem_cons_zero]
          rw [if_pos (by rfl)]
          go_simp
          refine (small_some (m := 2147483647) hsn (by have := xs_sz HXs.out 1; have := HS.out; omega) (by decide) _).mono ?_
          rintro _ wm ⟨rfl, hwm2⟩
          obtain rfl := hwm2.symm
          go_wp2_with fail
          refine hK.out _ _ hHeld (fun hHeld => ?_)
          clear hK K
          try simp only [Act.put, List.getElem_toArray, List.getElem_cons_succ, List.getElem_cons_zero, List.setIfInBounds_toArray, List.set_cons_zero, List.set_cons_succ]
          refine wpAnyH_take (i := 8) (oi := _) (v := ?_) rfl (by kernel_rfl) (by kernel_rfl) (by kernel_rfl) (fun _ _ _ h => h) (Or.inl ⟨by rfl, ?_⟩) (by assumption) ?_
          rotate_left
          · (intro W hSw; obtain ⟨yy, hyk, hSw⟩ := hSw; obtain ⟨⟨c0, c1, c2, c3, c4, c5, c6, c7⟩, z0, z1, z2, z3, z4, z6, z7⟩ := PG.cells hSw; rw [hyk] at c0; have hgT := PG.hT hSw; have wa := PG.row hSw 1 HLt.out; have hlt := HLt.out; have hlti := HLi.out; have hat := HAt.out; go_simp; try with_reducible rfl)
          try simp only [Act.put, List.getElem_toArray, List.getElem_cons_succ, List.getElem_cons_zero, List.setIfInBounds_toArray, List.set_cons_zero, List.set_cons_succ]
          refine wpAnyH_take (i := 9) (oi := _) (v := ?_) rfl (by kernel_rfl) (by kernel_rfl) (by kernel_rfl) (fun _ _ _ h => h) (Or.inl ⟨by rfl, ?_⟩) (by assumption) ?_
          rotate_left
          · (intro W hSw; obtain ⟨yy, hyk, hSw⟩ := hSw; obtain ⟨⟨c0, c1, c2, c3, c4, c5, c6, c7⟩, z0, z1, z2, z3, z4, z6, z7⟩ := PG.cells hSw; rw [hyk] at c0; have hgT := PG.hT hSw; have wa := PG.row hSw 1 HLt.out; have hlt := HLt.out; have hlti := HLi.out; have hat := HAt.out; go_simp; try with_reducible rfl)
          try simp only [Act.put, List.getElem_toArray, List.getElem_cons_succ, List.getElem_cons_zero, List.setIfInBounds_toArray, List.set_cons_zero, List.set_cons_succ]
          refine wpAnyH_take (i := 10) (oi := _) (v := ?_) rfl (by kernel_rfl) (by kernel_rfl) (by kernel_rfl) (fun _ _ _ h => h) (Or.inl ⟨by rfl, ?_⟩) (by assumption) ?_
          rotate_left
          · (intro W hSw; obtain ⟨yy, hyk, hSw⟩ := hSw; obtain ⟨⟨c0, c1, c2, c3, c4, c5, c6, c7⟩, z0, z1, z2, z3, z4, z6, z7⟩ := PG.cells hSw; rw [hyk] at c0; have hgT := PG.hT hSw; have wa := PG.row hSw 1 HLt.out; have hlt := HLt.out; have hlti := HLi.out; have hat := HAt.out; go_simp; try with_reducible rfl)
          try simp only [Act.put, List.getElem_toArray, List.getElem_cons_succ, List.getElem_cons_zero, List.setIfInBounds_toArray, List.set_cons_zero, List.set_cons_succ]
          refine wpAnyH_take (i := 11) (oi := _) (v := ?_) rfl (by kernel_rfl) (by kernel_rfl) (by kernel_rfl) (fun _ _ _ h => h) (Or.inl ⟨by rfl, ?_⟩) (by assumption) ?_
          rotate_left
          · (intro W hSw; obtain ⟨yy, hyk, hSw⟩ := hSw; obtain ⟨⟨c0, c1, c2, c3, c4, c5, c6, c7⟩, z0, z1, z2, z3, z4, z6, z7⟩ := PG.cells hSw; rw [hyk] at c0; have hgT := PG.hT hSw; have wa := PG.row hSw 1 HLt.out; have hlt := HLt.out; have hlti := HLi.out; have hat := HAt.out; go_simp; try with_reducible rfl)
          try simp only [Act.put, List.getElem_toArray, List.getElem_cons_succ, List.getElem_cons_zero, List.setIfInBounds_toArray, List.set_cons_zero, List.set_cons_succ]
          obtain ⟨⟨c0, c1, c2, c3, c4, c5, c6, c7⟩, z0, z1, z2, z3, z4, z6, z7⟩ := HQ.out.cells
          have hgT := HQ.out.hT
          have HQ2 := Lib.hid (HQ.out.set (x' := (⟨1, 0, (un : Int), 0, 0, 0, 0, ⟨#[]⟩⟩ : St)) 2 (.int .i64 (un : Int)) rfl)
          refine wpAnyH_ready (rs := [12]) (by kernel_rfl) (by simp) ?_
          refine AllReadyH.cons rfl (fun K hK => ?_) AllReadyH.nil
          simp only [List.getElem_toArray, List.getElem_cons_succ, List.getElem_cons_zero]
          rw [if_pos (by rfl)]
          go_simp
          refine hK.out _ _ ⟨_, rfl, HQ2.out⟩ (fun hHeld => ?_)
          clear hK K
          try simp only [Act.put, List.getElem_toArray, List.getElem_cons_succ, List.getElem_cons_zero, List.setIfInBounds_toArray, List.set_cons_zero, List.set_cons_succ]
          generalize Wq.setCell _ _ = Wqs at HQ2 hHeld ⊢
          clear c0 c1 c2 c3 c4 c5 c6 c7 z0 z1 z2 z3 z4 z6 z7 HQ hgT
          refine wpAnyH_take (i := 13) (oi := _) (v := ?_) rfl (by kernel_rfl) (by kernel_rfl) (by kernel_rfl) (fun _ _ _ h => h) (Or.inl ⟨by rfl, ?_⟩) (by assumption) ?_
          rotate_left
          · (intro W hSw; skip; go_simp; try with_reducible rfl)
          try simp only [Act.put, List.getElem_toArray, List.getElem_cons_succ, List.getElem_cons_zero, List.setIfInBounds_toArray, List.set_cons_zero, List.set_cons_succ]
          refine wpAnyH_done (by kernel_rfl) ?_ _
          clear hHeld
          obtain ⟨⟨c0, c1, c2, c3, c4, c5, c6, c7⟩, z0, z1, z2, z3, z4, z6, z7⟩ := HQ2.out.cells
          dsimp only at c0 c1 c2 c3 c4 c5 c6 c7
          have hun := (sm_some hsn).1
          go_wp2_with fail
          refine (St15.in_n_112 _).mono ?_
          rintro _ wq ⟨rfl, hq⟩
          obtain rfl := hq.symm
          clear hq
          have HE := Lib.hid (show strict (sp s.data.toList) = some (⟨1, 0, (un : Int), 0, 0, 0, 0, ⟨#[]⟩⟩ : St) by rw [strict_two (k := 1) HK.out (by decide) (show sp s.data.toList = _ by rw [← HXs.out]; exact two2 HM.out), show mxN 1 = 2147483647 from rfl, hsn]; rfl)
          go_upto_region 28 with fail
          clear c0 c1 c2 c3 c4 c5 c6 c7 z0 z1 z2 z3 z4 z6 z7
          refine wp_region_held_drew (S := fun V => PG w V T g xs (⟨1, 0, (un : Int), 0, 0, 0, 0, ⟨#[]⟩⟩ : St)) (by kernel_rfl) (HQ2.out.below (Below.refl _ _).drew) (fun hHeld => ?_)
          refine wpAnyH_take (i := 0) (oi := _) (v := ?_) rfl (by kernel_rfl) (by kernel_rfl) (by kernel_rfl) (fun _ _ _ h => h) (Or.inl ⟨by rfl, ?_⟩) (by assumption) ?_
          rotate_left
          · (intro W hSw; obtain ⟨⟨c0, c1, c2, c3, c4, c5, c6, c7⟩, _⟩ := PG.cells hSw; dsimp only at c0 c1 c2 c3 c4 c5 c6 c7; have hgT := PG.hT hSw; have hgw := PG.hg hSw; go_simp; try with_reducible rfl)
          try simp only [Act.put, List.getElem_toArray, List.getElem_cons_zero, List.setIfInBounds_toArray, List.set_cons_zero, List.set_cons_succ]
          refine wpAnyH_take (i := 1) (oi := _) (v := ?_) rfl (by kernel_rfl) (by kernel_rfl) (by kernel_rfl) (fun _ _ _ h => h) (Or.inl ⟨by rfl, ?_⟩) (by assumption) ?_
          rotate_left
          · (intro W hSw; obtain ⟨⟨c0, c1, c2, c3, c4, c5, c6, c7⟩, _⟩ := PG.cells hSw; dsimp only at c0 c1 c2 c3 c4 c5 c6 c7; have hgT := PG.hT hSw; have hgw := PG.hg hSw; go_simp; try with_reducible rfl)
          try simp only [Act.put, List.getElem_toArray, List.getElem_cons_succ, List.getElem_cons_zero, List.setIfInBounds_toArray, List.set_cons_zero, List.set_cons_succ]
          refine wpAnyH_take (i := 2) (oi := _) (v := ?_) rfl (by kernel_rfl) (by kernel_rfl) (by kernel_rfl) (fun _ _ _ h => h) (Or.inl ⟨by rfl, ?_⟩) (by assumption) ?_
          rotate_left
          · (intro W hSw; obtain ⟨⟨c0, c1, c2, c3, c4, c5, c6, c7⟩, _⟩ := PG.cells hSw; dsimp only at c0 c1 c2 c3 c4 c5 c6 c7; have hgT := PG.hT hSw; have hgw := PG.hg hSw; go_simp; try with_reducible rfl)
          try simp only [Act.put, List.getElem_toArray, List.getElem_cons_succ, List.getElem_cons_zero, List.setIfInBounds_toArray, List.set_cons_zero, List.set_cons_succ]
          refine wpAnyH_take (i := 3) (oi := _) (v := ?_) rfl (by kernel_rfl) (by kernel_rfl) (by kernel_rfl) (fun _ _ _ h => h) (Or.inl ⟨by rfl, ?_⟩) (by assumption) ?_
          rotate_left
          · (intro W hSw; obtain ⟨⟨c0, c1, c2, c3, c4, c5, c6, c7⟩, _⟩ := PG.cells hSw; dsimp only at c0 c1 c2 c3 c4 c5 c6 c7; have hgT := PG.hT hSw; have hgw := PG.hg hSw; go_simp; try with_reducible rfl)
          try simp only [Act.put, List.getElem_toArray, List.getElem_cons_succ, List.getElem_cons_zero, List.setIfInBounds_toArray, List.set_cons_zero, List.set_cons_succ]
          refine wpAnyH_ready (rs := [4]) (by kernel_rfl) (by simp) ?_
          refine AllReadyH.cons rfl (fun K hK => ?_) AllReadyH.nil
          simp only [List.getElem_toArray, List.getElem_cons_succ, List.getElem_cons_zero]
          rw [if_pos (by rfl)]
          go_simp
          refine (St15.right_1 (un : Int) (by omega) (by omega) _).mono ?_
          rintro _ wr1 ⟨rfl, br1⟩
          go_wp2_with fail
          refine hK.out _ _ (PG.below hHeld br1) (fun hHeld => ?_)
          clear hK K
          try simp only [Act.put, List.getElem_toArray, List.getElem_cons_succ, List.getElem_cons_zero, List.setIfInBounds_toArray, List.set_cons_zero, List.set_cons_succ]
          refine wpAnyH_take (i := 5) (oi := _) (v := ?_) rfl (by kernel_rfl) (by kernel_rfl) (by kernel_rfl) (fun _ _ _ h => h) (Or.inl ⟨by rfl, ?_⟩) (by assumption) ?_
          rotate_left
          · (intro W hSw; obtain ⟨⟨c0, c1, c2, c3, c4, c5, c6, c7⟩, _⟩ := PG.cells hSw; dsimp only at c0 c1 c2 c3 c4 c5 c6 c7; have hgT := PG.hT hSw; have hgw := PG.hg hSw; go_simp; try with_reducible rfl)
          try simp only [Act.put, List.getElem_toArray, List.getElem_cons_succ, List.getElem_cons_zero, List.setIfInBounds_toArray, List.set_cons_zero, List.set_cons_succ]
          obtain ⟨y0, hy0⟩ := PG.r hHeld
          have HRr := Lib.hid (setRow_heap (wr1) w.heap.size _ (⟨1, 0, (un : Int), 0, 0, 0, 0, ⟨#[]⟩⟩ : St).cells 26 (0, 0) hy0)
          refine wpAnyH_ready (rs := [6]) (by kernel_rfl) (by simp) ?_
          refine AllReadyH.cons rfl (fun K hK => ?_) AllReadyH.nil
          simp only [List.getElem_toArray, List.getElem_cons_succ, List.getElem_cons_zero]
          rw [if_pos (by rfl)]
          refine wp_store_row 26 _ _ rfl w.heap.size (⟨1, 0, (un : Int), 0, 0, 0, 0, ⟨#[]⟩⟩ : St).cells rfl rfl 26 _ hy0 (hi8 (⟨1, 0, (un : Int), 0, 0, 0, 0, ⟨#[]⟩⟩ : St)) rfl (cells8_one _) ?_
          refine hK.out _ _ (PG.setR hHeld) (fun hHeld => ?_)
          clear hK K
          try simp only [Act.put, List.setIfInBounds_toArray, List.set_cons_zero, List.set_cons_succ]
          refine wpAnyH_take (i := 7) (oi := _) (v := ?_) rfl (by kernel_rfl) (by kernel_rfl) (by kernel_rfl) (fun _ _ _ h => h) (Or.inl ⟨by rfl, ?_⟩) (by assumption) ?_
          rotate_left
          · (intro W hSw; skip; go_simp; try with_reducible rfl)
          try simp only [Act.put, List.getElem_toArray, List.getElem_cons_succ, List.getElem_cons_zero, List.setIfInBounds_toArray, List.set_cons_zero, List.set_cons_succ]
          refine wpAnyH_done (by kernel_rfl) ?_ _
          have hB9 := PG.b hHeld
          obtain ⟨W9, hW9⟩ : ∃ W9, W9 = (wr1).setRow w.heap.size (⟨1, 0, (un : Int), 0, 0, 0, 0, ⟨#[]⟩⟩ : St).cells := ⟨_, rfl⟩
          have HR' := HRr.out
          rw [← hW9] at HR' hB9 ⊢
          clear hW9 hy0 hHeld HRr
          go_wp2_with fail
          exact bodyPost_ret (res8p _ _ w.heap.size (⟨1, 0, (un : Int), 0, 0, 0, 0, ⟨#[]⟩⟩ : St) true rfl rfl HR') rfl ⟨.inl ⟨(⟨1, 0, (un : Int), 0, 0, 0, 0, ⟨#[]⟩⟩ : St), HE.out, rfl⟩, hB9⟩
      · have hm1 : ((xs.length : Int) == 2) = false := by rw [beq_eq_false_iff_ne]; omega
        have hm2 : ((xs.length : Int) != 2) = true := by rw [bne_iff_ne]; omega
        have HE := Lib.hid (strict_many HK.out (by decide) (show (sp s.data.toList).length ≠ manyK 1 by rw [← HXs.out, List.length_map]; exact hm))
        clear hm
        go_upto_region 13 with fail
        refine wp_region_lit ?_
        refine wpList_load_row rfl 26 _ rfl T rfl 26 (⟨1, 0, 0, 0, 0, 0, 0, ⟨#[]⟩⟩ : St).cells (0, 0) _ HP3.out.t Tryz.underlying26 rfl (hi8 (⟨1, 0, 0, 0, 0, 0, 0, ⟨#[]⟩⟩ : St)) ?_
        obtain ⟨y0, hy0⟩ := HP3.out.r
        refine wpList_store_rowTo rfl 26 _ _ rfl rfl w.heap.size (⟨1, 0, 0, 0, 0, 0, 0, ⟨#[]⟩⟩ : St).cells rfl rfl 26 _ hy0 (hi8 (⟨1, 0, 0, 0, 0, 0, 0, ⟨#[]⟩⟩ : St)) rfl (cells8_one _) ?_
        have HR' := setRow_heap w3 w.heap.size _ (⟨1, 0, 0, 0, 0, 0, 0, ⟨#[]⟩⟩ : St).cells 26 (0, 0) hy0
        have hB9 := (HP3.out.setR (y := (⟨1, 0, 0, 0, 0, 0, 0, ⟨#[]⟩⟩ : St))).b
        obtain ⟨W9, hW9⟩ : ∃ W9, W9 = w3.setRow w.heap.size (⟨1, 0, 0, 0, 0, 0, 0, ⟨#[]⟩⟩ : St).cells := ⟨_, rfl⟩
        rw [← hW9] at HR' hB9 ⊢
        clear hW9 hy0
        go_wp2_with fail
        exact bodyPost_ret (res8p _ _ w.heap.size (⟨1, 0, 0, 0, 0, 0, 0, ⟨#[]⟩⟩ : St) false rfl rfl HR') rfl ⟨.inr ⟨HE.out, (⟨1, 0, 0, 0, 0, 0, 0, ⟨#[]⟩⟩ : St), rfl⟩, hB9⟩

set_option maxHeartbeats 4000000 in
set_option maxRecDepth 100000 in
theorem rparse_2 (s : ByteArray) (hs : s.size ≤ 2000) (hk : kL ((sp s.data.toList).getD 0 []) = 2) (w : World) : Calls Tryz.prog 66 #[.string s] w fun e w' => pP s.data.toList e ∧ Below w.heap.size w w' := by
  have HS := Lib.hid hs
  have HK := Lib.hid hk
  clear hs hk
  go_enter Tryz.func66, Tryz.ntmps66
  go_wp2_with fail
  refine (words_any s (by have := HS.out; omega) _).mono ?_
  rintro _ w1 ⟨⟨v, xs, rfl, hown, hxs⟩, hb1⟩
  have hxn : xs ≠ [] := fun e => sp_ne s.data.toList (by rw [← hxs, e]; rfl)
  have HXn := Lib.hid hxn
  have HXs := Lib.hid hxs
  simp only [World.size_alloc] at hown
  obtain ⟨g, cap, rfl, hpg⟩ := PG.start (w := w) hb1 hown hxn
  have HP := Lib.hid hpg
  have HN := Lib.hid (List.length_pos_iff.2 hxn)
  have H0 : Hid (kL (gx xs 0).data.toList = 2) := Lib.hid (by
    have e : (gx xs 0).data.toList = (sp s.data.toList).getD 0 [] := by
      unfold gx
      rw [← hxs, List.getD_eq_getElem?_getD, List.getD_eq_getElem?_getD, List.getElem?_map]
      cases hx : xs[0]? with
      | none => exact absurd (List.getElem?_eq_none_iff.1 hx) (by have := HN.out; omega)
      | some a => rfl
    rw [e]; exact HK.out)
  clear hown hb1 hpg hxn hxs
  obtain ⟨T, hT⟩ : ∃ T, w1.heap.size = T := ⟨_, rfl⟩
  go_upto_region 3 with fail
  rw [hT] at HP
  obtain ⟨W2, hW2⟩ : ∃ W2, W2 = w1.alloc (.cells St0.cells 26) := ⟨_, rfl⟩
  have HP2 : Hid (PG w W2 T g xs St0) := by rw [hW2]; exact HP
  rw [show w1.alloc (.cells #[.int .i64 0, .int .i64 0, .int .i64 0, .int .i64 0, .int .i64 0, .int .u64 0, .int .u64 0, .string ⟨#[]⟩] 26) = W2 from hW2.symm]
  have hn0 : (0 : Int) < (xs.length : Int) := by have := HN.out; omega
  clear hW2 HP hT
  go_wp2_with fail
  go_loopw [6] (fun i wr => ∃ kq : Nat, i = .int .i64 (kq : Int) ∧ 1 ≤ kq ∧ kq ≤ 9 ∧ Hid (PG w wr T g xs (stK (kx 2 kq)))) (fun i _ => 9 - (RowKit.intOf i).toNat)
  case atStart => exact ⟨1, rfl, by omega, by omega, HP2⟩
  case round =>
    obtain ⟨kq, rfl, hk1, hk9, HP⟩ := hrel
    clear HP2
    by_cases h8 : kq ≤ 8
    · have hk8 : (kq : Int) ≤ 8 := by omega
      have hk0 : (0 : Int) ≤ (kq : Int) := by omega
      go_upto_region 6 with fail
      refine wp_region_held_drew (S := fun V => PG w V T g xs (stK (kx 2 kq))) (by kernel_rfl) (HP.out.below (Below.refl _ _).drew) (fun hHeld => ?_)
      refine wpAnyH_take (i := 0) (oi := _) (v := ?_) rfl (by kernel_rfl) (by kernel_rfl) (by kernel_rfl) (fun _ _ _ h => h) (Or.inl ⟨by rfl, ?_⟩) (by assumption) ?_
      rotate_left
      · (intro W hSw; obtain ⟨⟨c0, c1, c2, c3, c4, c5, c6, c7⟩, _⟩ := PG.cells hSw; have w0 := PG.row hSw 0 HN.out; have hn0n := HN.out; go_simp; try with_reducible rfl)
      try simp only [Act.put, List.getElem_toArray, List.getElem_cons_zero, List.setIfInBounds_toArray, List.set_cons_zero, List.set_cons_succ]
      refine wpAnyH_take (i := 2) (oi := _) (v := ?_) rfl (by kernel_rfl) (by kernel_rfl) (by kernel_rfl) (fun _ _ _ h => h) (Or.inl ⟨by rfl, ?_⟩) (by assumption) ?_
      rotate_left
      · (intro W hSw; obtain ⟨⟨c0, c1, c2, c3, c4, c5, c6, c7⟩, _⟩ := PG.cells hSw; have w0 := PG.row hSw 0 HN.out; have hn0n := HN.out; go_simp; try with_reducible rfl)
      try simp only [Act.put, List.getElem_toArray, List.getElem_cons_succ, List.getElem_cons_zero, List.setIfInBounds_toArray, List.set_cons_zero, List.set_cons_succ]
      refine wpAnyH_take (i := 3) (oi := _) (v := ?_) rfl (by kernel_rfl) (by kernel_rfl) (by kernel_rfl) (fun _ _ _ h => h) (Or.inl ⟨by rfl, ?_⟩) (by assumption) ?_
      rotate_left
      · (intro W hSw; obtain ⟨⟨c0, c1, c2, c3, c4, c5, c6, c7⟩, _⟩ := PG.cells hSw; have w0 := PG.row hSw 0 HN.out; have hn0n := HN.out; go_simp; try with_reducible rfl)
      try simp only [Act.put, List.getElem_toArray, List.getElem_cons_succ, List.getElem_cons_zero, List.setIfInBounds_toArray, List.set_cons_zero, List.set_cons_succ]
      refine wpAnyH_take (i := 4) (oi := _) (v := ?_) rfl (by kernel_rfl) (by kernel_rfl) (by kernel_rfl) (fun _ _ _ h => h) (Or.inl ⟨by rfl, ?_⟩) (by assumption) ?_
      rotate_left
      · (intro W hSw; obtain ⟨⟨c0, c1, c2, c3, c4, c5, c6, c7⟩, _⟩ := PG.cells hSw; have w0 := PG.row hSw 0 HN.out; have hn0n := HN.out; go_simp; try with_reducible rfl)
      try simp only [Act.put, List.getElem_toArray, List.getElem_cons_succ, List.getElem_cons_zero, List.setIfInBounds_toArray, List.set_cons_zero, List.set_cons_succ]
      refine wpAnyH_ready (rs := [1]) (by kernel_rfl) (by simp) ?_
      refine AllReadyH.cons rfl (fun K hK => ?_) AllReadyH.nil
      simp only [List.getElem_toArray, List.getElem_cons_succ, List.getElem_cons_zero]
      rw [if_pos (by rfl)]
      go_simp
      refine (rword_any kq hk1 h8 _).mono ?_
      rintro _ wb ⟨rfl, hb⟩
      go_wp2_with fail
      refine hK.out _ _ (PG.below hHeld hb) (fun hHeld => ?_)
      clear hK K
      try simp only [Act.put, List.getElem_toArray, List.getElem_cons_succ, List.getElem_cons_zero, List.setIfInBounds_toArray, List.set_cons_zero, List.set_cons_succ]
      refine wpAnyH_take (i := 5) (oi := _) (v := ?_) rfl (by kernel_rfl) (by kernel_rfl) (by kernel_rfl) (fun _ _ _ h => h) (Or.inl ⟨by rfl, ?_⟩) (by assumption) ?_
      rotate_left
      · (intro W hSw; obtain ⟨⟨c0, c1, c2, c3, c4, c5, c6, c7⟩, _⟩ := PG.cells hSw; have w0 := PG.row hSw 0 HN.out; have hn0n := HN.out; go_simp; try with_reducible rfl)
      try simp only [Act.put, List.getElem_toArray, List.getElem_cons_succ, List.getElem_cons_zero, List.setIfInBounds_toArray, List.set_cons_zero, List.set_cons_succ]
      refine wpAnyH_done (by kernel_rfl) ?_ _
      have HPb := Lib.hid hHeld
      clear hHeld HP
      by_cases he : kq = 2
      · subst he
        have e1 : ((wdB 2).toList == (gx xs 0).toList) = true := by
          rw [beq_iff_eq, ByteArray.toList_eq, ByteArray.toList_eq, wd_kL H0.out (by decide)]; rfl
        rw [e1]
        clear e1
        obtain ⟨⟨c0, c1, c2, c3, c4, c5, c6, c7⟩, z0, z1, z2, z3, z4, z6, z7⟩ := HPb.out.cells
        have hgT := HPb.out.hT
        clear hk1 hk9 h8 hk8 hk0
        go_wp2
        go_roundw
        case rel => exact ⟨2 + 1, by go_num, by omega, by omega, Lib.hid (HPb.out.set 0 _ rfl)⟩
        case measure => simp [RowKit.intOf]
      have e1 : ((wdB kq).toList == (gx xs 0).toList) = false := tl_ne fun e => he (by
        have := H0.out
        rw [← e] at this
        exact (kL_first hk1 h8 (by simp [wdB])).symm.trans this)
      rw [← kx_ne he] at HPb
      have HE9 := Lib.hid (And.intro hk1 h8)
      clear he hk1 hk9 h8
      rw [e1]
      clear e1
      go_wp2
      go_roundw
      case rel => exact ⟨kq + 1, by go_num, by omega, by have := HE9.out; omega, HPb⟩
      case measure => have := HE9.out; simp [RowKit.intOf]; omega
    · obtain rfl : kq = 9 := by omega
      rw [show stK (kx 2 9) = (⟨2, 0, 0, 0, 0, 0, 0, ⟨#[]⟩⟩ : St) from rfl] at HP
      clear h8 hk1 hk9
      obtain ⟨⟨c0, c1, c2, c3, c4, c5, c6, c7⟩, z0, z1, z2, z3, z4, z6, z7⟩ := HP.out.cells
      dsimp only at c0 c1 c2 c3 c4 c5 c6 c7
      go_wp2_with fail
      refine (St15.has_2 _).mono ?_
      rintro _ w3 ⟨rfl, hb3⟩
      have HP3 := Lib.hid (HP.out.below hb3)
      clear hb3 HP
      clear c0 c1 c2 c3 c4 c5 c6 c7 z0 z1 z2 z3 z4 z6 z7
      obtain ⟨⟨c0, c1, c2, c3, c4, c5, c6, c7⟩, z0, z1, z2, z3, z4, z6, z7⟩ := HP3.out.cells
      dsimp only at c0 c1 c2 c3 c4 c5 c6 c7
      go_wp2_with fail
      refine (St15.in_s_112 _).mono ?_
      rintro _ wq ⟨rfl, hq⟩
      obtain rfl := hq.symm
      clear hq
      by_cases hm : xs.length = 2
      · have hm1 : ((xs.length : Int) == 2) = true := by rw [hm]; rfl
        have hm2 : ((xs.length : Int) != 2) = false := by rw [hm]; rfl
        have HM := Lib.hid hm
        clear hm
        go_wp2_with fail
        refine (St15.in_s_115 _).mono ?_
        rintro _ wq ⟨rfl, hq⟩
        obtain rfl := hq.symm
        clear hq
        cases hss : sm (gx xs 1).data.toList 1 with
        | none =>
          have w1 := HP3.out.row 1 (by have := HM.out; omega)
          have hl0 : 1 < xs.length := by have := HM.out; omega
          have hl1 : (1 : Int) < (xs.length : Int) := by omega
          have hgT := HP3.out.hT
          go_wp2_with fail
          refine (small_none (m := 1) hss (by have := xs_sz HXs.out 1; have := HS.out; omega) (by decide) _).mono ?_
          rintro _ wq ⟨rfl, hq⟩
          obtain rfl := hq.symm
          clear hq
          go_upto_region 18 with fail
          have HQs := Lib.hid (HP3.out.set (x' := (⟨2, 0, 0, 0, 0, 0, 0, ⟨#[]⟩⟩ : St)) 1 (.int .i64 0) rfl)
          generalize w3.setCell ⟨T, 1, none⟩ (.int .i64 0) = Wsn at HQs ⊢
          clear c0 c1 c2 c3 c4 c5 c6 c7 z0 z1 z2 z3 z4 z6 z7 w1 hl0 hl1 hgT
          obtain ⟨⟨c0, c1, c2, c3, c4, c5, c6, c7⟩, z0, z1, z2, z3, z4, z6, z7⟩ := HQs.out.cells
          dsimp only at c0 c1 c2 c3 c4 c5 c6 c7
          go_wp2_with fail
          refine (St15.in_s_112 _).mono ?_
          rintro _ wq ⟨rfl, hq⟩
          obtain rfl := hq.symm
          clear hq
          have HE := Lib.hid (show strict (sp s.data.toList) = none by rw [strict_two (k := 2) HK.out (by decide) (show sp s.data.toList = _ by rw [← HXs.out]; exact two2 HM.out), show mxN 2 = 1 from rfl, hss]; rfl)
          go_upto_region 28 with fail
          clear c0 c1 c2 c3 c4 c5 c6 c7 z0 z1 z2 z3 z4 z6 z7
          refine wp_region_held_drew (S := fun V => PG w V T g xs (⟨2, 0, 0, 0, 0, 0, 0, ⟨#[]⟩⟩ : St)) (by kernel_rfl) (HQs.out.below (Below.refl _ _).drew) (fun hHeld => ?_)
          refine wpAnyH_take (i := 0) (oi := _) (v := ?_) rfl (by kernel_rfl) (by kernel_rfl) (by kernel_rfl) (fun _ _ _ h => h) (Or.inl ⟨by rfl, ?_⟩) (by assumption) ?_
          rotate_left
          · (intro W hSw; obtain ⟨⟨c0, c1, c2, c3, c4, c5, c6, c7⟩, _⟩ := PG.cells hSw; dsimp only at c0 c1 c2 c3 c4 c5 c6 c7; have hgT := PG.hT hSw; have hgw := PG.hg hSw; go_simp; try with_reducible rfl)
          try simp only [Act.put, List.getElem_toArray, List.getElem_cons_zero, List.setIfInBounds_toArray, List.set_cons_zero, List.set_cons_succ]
          refine wpAnyH_take (i := 1) (oi := _) (v := ?_) rfl (by kernel_rfl) (by kernel_rfl) (by kernel_rfl) (fun _ _ _ h => h) (Or.inl ⟨by rfl, ?_⟩) (by assumption) ?_
          rotate_left
          · (intro W hSw; obtain ⟨⟨c0, c1, c2, c3, c4, c5, c6, c7⟩, _⟩ := PG.cells hSw; dsimp only at c0 c1 c2 c3 c4 c5 c6 c7; have hgT := PG.hT hSw; have hgw := PG.hg hSw; go_simp; try with_reducible rfl)
          try simp only [Act.put, List.getElem_toArray, List.getElem_cons_succ, List.getElem_cons_zero, List.setIfInBounds_toArray, List.set_cons_zero, List.set_cons_succ]
          refine wpAnyH_take (i := 2) (oi := _) (v := ?_) rfl (by kernel_rfl) (by kernel_rfl) (by kernel_rfl) (fun _ _ _ h => h) (Or.inl ⟨by rfl, ?_⟩) (by assumption) ?_
          rotate_left
          · (intro W hSw; obtain ⟨⟨c0, c1, c2, c3, c4, c5, c6, c7⟩, _⟩ := PG.cells hSw; dsimp only at c0 c1 c2 c3 c4 c5 c6 c7; have hgT := PG.hT hSw; have hgw := PG.hg hSw; go_simp; try with_reducible rfl)
          try simp only [Act.put, List.getElem_toArray, List.getElem_cons_succ, List.getElem_cons_zero, List.setIfInBounds_toArray, List.set_cons_zero, List.set_cons_succ]
          refine wpAnyH_take (i := 3) (oi := _) (v := undef) rfl (by kernel_rfl) (by kernel_rfl) (by kernel_rfl) (fun _ _ _ h => h) (Or.inr ⟨by rfl, rfl⟩) (by assumption) ?_
          try simp only [Act.put, List.getElem_toArray, List.getElem_cons_succ, List.getElem_cons_zero, List.setIfInBounds_toArray, List.set_cons_zero, List.set_cons_succ]
          refine wpAnyH_take (i := 4) (oi := _) (v := undef) rfl (by kernel_rfl) (by kernel_rfl) (by kernel_rfl) (fun _ _ _ h => h) (Or.inr ⟨by rfl, rfl⟩) (by assumption) ?_
          try simp only [Act.put, List.getElem_toArray, List.getElem_cons_succ, List.getElem_cons_zero, List.setIfInBounds_toArray, List.set_cons_zero, List.set_cons_succ]
          refine wpAnyH_take (i := 5) (oi := _) (v := ?_) rfl (by kernel_rfl) (by kernel_rfl) (by kernel_rfl) (fun _ _ _ h => h) (Or.inl ⟨by rfl, ?_⟩) (by assumption) ?_
          rotate_left
          · (intro W hSw; obtain ⟨⟨c0, c1, c2, c3, c4, c5, c6, c7⟩, _⟩ := PG.cells hSw; dsimp only at c0 c1 c2 c3 c4 c5 c6 c7; have hgT := PG.hT hSw; have hgw := PG.hg hSw; go_simp; try with_reducible rfl)
          try simp only [Act.put, List.getElem_toArray, List.getElem_cons_succ, List.getElem_cons_zero, List.setIfInBounds_toArray, List.set_cons_zero, List.set_cons_succ]
          obtain ⟨y0, hy0⟩ := PG.r hHeld
          have HRr := Lib.hid (setRow_heap (Wsn.drew) w.heap.size _ (⟨2, 0, 0, 0, 0, 0, 0, ⟨#[]⟩⟩ : St).cells 26 (0, 0) hy0)
          refine wpAnyH_ready (rs := [6]) (by kernel_rfl) (by simp) ?_
          refine AllReadyH.cons rfl (fun K hK => ?_) AllReadyH.nil
          simp only [List.getElem_toArray, List.getElem_cons_succ, List.getElem_cons_zero]
          rw [if_pos (by rfl)]
          refine wp_store_row 26 _ _ rfl w.heap.size (⟨2, 0, 0, 0, 0, 0, 0, ⟨#[]⟩⟩ : St).cells rfl rfl 26 _ hy0 (hi8 (⟨2, 0, 0, 0, 0, 0, 0, ⟨#[]⟩⟩ : St)) rfl (cells8_one _) ?_
          refine hK.out _ _ (PG.setR hHeld) (fun hHeld => ?_)
          clear hK K
          try simp only [Act.put, List.setIfInBounds_toArray, List.set_cons_zero, List.set_cons_succ]
          refine wpAnyH_take (i := 7) (oi := _) (v := ?_) rfl (by kernel_rfl) (by kernel_rfl) (by kernel_rfl) (fun _ _ _ h => h) (Or.inl ⟨by rfl, ?_⟩) (by assumption) ?_
          rotate_left
          · (intro W hSw; skip; go_simp; try with_reducible rfl)
          try simp only [Act.put, List.getElem_toArray, List.getElem_cons_succ, List.getElem_cons_zero, List.setIfInBounds_toArray, List.set_cons_zero, List.set_cons_succ]
          refine wpAnyH_done (by kernel_rfl) ?_ _
          have hB9 := PG.b hHeld
          obtain ⟨W9, hW9⟩ : ∃ W9, W9 = (Wsn.drew).setRow w.heap.size (⟨2, 0, 0, 0, 0, 0, 0, ⟨#[]⟩⟩ : St).cells := ⟨_, rfl⟩
          have HR' := HRr.out
          rw [← hW9] at HR' hB9 ⊢
          clear hW9 hy0 hHeld HRr
          go_wp2_with fail
          exact bodyPost_ret (res8p _ _ w.heap.size (⟨2, 0, 0, 0, 0, 0, 0, ⟨#[]⟩⟩ : St) false rfl rfl HR') rfl ⟨.inr ⟨HE.out, (⟨2, 0, 0, 0, 0, 0, 0, ⟨#[]⟩⟩ : St), rfl⟩, hB9⟩
        | some us =>
          have w1 := HP3.out.row 1 (by have := HM.out; omega)
          have hl0 : 1 < xs.length := by have := HM.out; omega
          have hl1 : (1 : Int) < (xs.length : Int) := by omega
          have hgT := HP3.out.hT
          go_wp2_with fail
          refine (small_some (m := 1) hss (by have := xs_sz HXs.out 1; have := HS.out; omega) (by decide) _).mono ?_
          rintro _ wq ⟨rfl, hq⟩
          obtain rfl := hq.symm
          clear hq
          go_upto_region 18 with fail
          have HQs := Lib.hid (HP3.out.set (x' := (⟨2, (us : Int), 0, 0, 0, 0, 0, ⟨#[]⟩⟩ : St)) 1 (.int .i64 (us : Int)) rfl)
          generalize w3.setCell ⟨T, 1, none⟩ (.int .i64 (us : Int)) = Wss at HQs ⊢
          clear c0 c1 c2 c3 c4 c5 c6 c7 z0 z1 z2 z3 z4 z6 z7 w1 hl0 hl1 hgT
          obtain ⟨⟨c0, c1, c2, c3, c4, c5, c6, c7⟩, z0, z1, z2, z3, z4, z6, z7⟩ := HQs.out.cells
          dsimp only at c0 c1 c2 c3 c4 c5 c6 c7
          have hus := (sm_some hss).1
          go_wp2_with fail
          refine (in_s_110 _).mono ?_
          rintro _ wq ⟨rfl, hq⟩
          obtain rfl := hq.symm
          clear hq
          go_wp2_with fail
          refine (St15.in_s_112 _).mono ?_
          rintro _ wq ⟨rfl, hq⟩
          obtain rfl := hq.symm
          clear hq
          have HE := Lib.hid (show strict (sp s.data.toList) = some (⟨2, (us : Int), 0, 0, 0, 0, 0, ⟨#[]⟩⟩ : St) by rw [strict_two (k := 2) HK.out (by decide) (show sp s.data.toList = _ by rw [← HXs.out]; exact two2 HM.out), show mxN 2 = 1 from rfl, hss]; rfl)
          go_upto_region 28 with fail
          clear c0 c1 c2 c3 c4 c5 c6 c7 z0 z1 z2 z3 z4 z6 z7
          refine wp_region_held_drew (S := fun V => PG w V T g xs (⟨2, (us : Int), 0, 0, 0, 0, 0, ⟨#[]⟩⟩ : St)) (by kernel_rfl) (HQs.out.below (Below.refl _ _).drew) (fun hHeld => ?_)
          refine wpAnyH_take (i := 0) (oi := _) (v := ?_) rfl (by kernel_rfl) (by kernel_rfl) (by kernel_rfl) (fun _ _ _ h => h) (Or.inl ⟨by rfl, ?_⟩) (by assumption) ?_
          rotate_left
          · (intro W hSw; obtain ⟨⟨c0, c1, c2, c3, c4, c5, c6, c7⟩, _⟩ := PG.cells hSw; dsimp only at c0 c1 c2 c3 c4 c5 c6 c7; have hgT := PG.hT hSw; have hgw := PG.hg hSw; go_simp; try with_reducible rfl)
          try simp only [Act.put, List.getElem_toArray, List.getElem_cons_zero, List.setIfInBounds_toArray, List.set_cons_zero, List.set_cons_succ]
          refine wpAnyH_take (i := 1) (oi := _) (v := ?_) rfl (by kernel_rfl) (by kernel_rfl) (by kernel_rfl) (fun _ _ _ h => h) (Or.inl ⟨by rfl, ?_⟩) (by assumption) ?_
          rotate_left
          · (intro W hSw; obtain ⟨⟨c0, c1, c2, c3, c4, c5, c6, c7⟩, _⟩ := PG.cells hSw; dsimp only at c0 c1 c2 c3 c4 c5 c6 c7; have hgT := PG.hT hSw; have hgw := PG.hg hSw; go_simp; try with_reducible rfl)
          try simp only [Act.put, List.getElem_toArray, List.getElem_cons_succ, List.getElem_cons_zero, List.setIfInBounds_toArray, List.set_cons_zero, List.set_cons_succ]
          refine wpAnyH_take (i := 2) (oi := _) (v := ?_) rfl (by kernel_rfl) (by kernel_rfl) (by kernel_rfl) (fun _ _ _ h => h) (Or.inl ⟨by rfl, ?_⟩) (by assumption) ?_
          rotate_left
          · (intro W hSw; obtain ⟨⟨c0, c1, c2, c3, c4, c5, c6, c7⟩, _⟩ := PG.cells hSw; dsimp only at c0 c1 c2 c3 c4 c5 c6 c7; have hgT := PG.hT hSw; have hgw := PG.hg hSw; go_simp; try with_reducible rfl)
          try simp only [Act.put, List.getElem_toArray, List.getElem_cons_succ, List.getElem_cons_zero, List.setIfInBounds_toArray, List.set_cons_zero, List.set_cons_succ]
          refine wpAnyH_take (i := 3) (oi := _) (v := ?_) rfl (by kernel_rfl) (by kernel_rfl) (by kernel_rfl) (fun _ _ _ h => h) (Or.inl ⟨by rfl, ?_⟩) (by assumption) ?_
          rotate_left
          · (intro W hSw; obtain ⟨⟨c0, c1, c2, c3, c4, c5, c6, c7⟩, _⟩ := PG.cells hSw; dsimp only at c0 c1 c2 c3 c4 c5 c6 c7; have hgT := PG.hT hSw; have hgw := PG.hg hSw; go_simp; try with_reducible rfl)
          try simp only [Act.put, List.getElem_toArray, List.getElem_cons_succ, List.getElem_cons_zero, List.setIfInBounds_toArray, List.set_cons_zero, List.set_cons_succ]
          refine wpAnyH_ready (rs := [4]) (by kernel_rfl) (by simp) ?_
          refine AllReadyH.cons rfl (fun K hK => ?_) AllReadyH.nil
          simp only [List.getElem_toArray, List.getElem_cons_succ, List.getElem_cons_zero]
          rw [if_pos (by rfl)]
          go_simp
          refine (St15.right_2 (us : Int) (by omega) (by omega) _).mono ?_
          rintro _ wr1 ⟨rfl, br1⟩
          go_wp2_with fail
          refine hK.out _ _ (PG.below hHeld br1) (fun hHeld => ?_)
          clear hK K
          try simp only [Act.put, List.getElem_toArray, List.getElem_cons_succ, List.getElem_cons_zero, List.setIfInBounds_toArray, List.set_cons_zero, List.set_cons_succ]
          refine wpAnyH_take (i := 5) (oi := _) (v := ?_) rfl (by kernel_rfl) (by kernel_rfl) (by kernel_rfl) (fun _ _ _ h => h) (Or.inl ⟨by rfl, ?_⟩) (by assumption) ?_
          rotate_left
          · (intro W hSw; obtain ⟨⟨c0, c1, c2, c3, c4, c5, c6, c7⟩, _⟩ := PG.cells hSw; dsimp only at c0 c1 c2 c3 c4 c5 c6 c7; have hgT := PG.hT hSw; have hgw := PG.hg hSw; go_simp; try with_reducible rfl)
          try simp only [Act.put, List.getElem_toArray, List.getElem_cons_succ, List.getElem_cons_zero, List.setIfInBounds_toArray, List.set_cons_zero, List.set_cons_succ]
          obtain ⟨y0, hy0⟩ := PG.r hHeld
          have HRr := Lib.hid (setRow_heap (wr1) w.heap.size _ (⟨2, (us : Int), 0, 0, 0, 0, 0, ⟨#[]⟩⟩ : St).cells 26 (0, 0) hy0)
          refine wpAnyH_ready (rs := [6]) (by kernel_rfl) (by simp) ?_
          refine AllReadyH.cons rfl (fun K hK => ?_) AllReadyH.nil
          simp only [List.getElem_toArray, List.getElem_cons_succ, List.getElem_cons_zero]
          rw [if_pos (by rfl)]
          refine wp_store_row 26 _ _ rfl w.heap.size (⟨2, (us : Int), 0, 0, 0, 0, 0, ⟨#[]⟩⟩ : St).cells rfl rfl 26 _ hy0 (hi8 (⟨2, (us : Int), 0, 0, 0, 0, 0, ⟨#[]⟩⟩ : St)) rfl (cells8_one _) ?_
          refine hK.out _ _ (PG.setR hHeld) (fun hHeld => ?_)
          clear hK K
          try simp only [Act.put, List.setIfInBounds_toArray, List.set_cons_zero, List.set_cons_succ]
          refine wpAnyH_take (i := 7) (oi := _) (v := ?_) rfl (by kernel_rfl) (by kernel_rfl) (by kernel_rfl) (fun _ _ _ h => h) (Or.inl ⟨by rfl, ?_⟩) (by assumption) ?_
          rotate_left
          · (intro W hSw; skip; go_simp; try with_reducible rfl)
          try simp only [Act.put, List.getElem_toArray, List.getElem_cons_succ, List.getElem_cons_zero, List.setIfInBounds_toArray, List.set_cons_zero, List.set_cons_succ]
          refine wpAnyH_done (by kernel_rfl) ?_ _
          have hB9 := PG.b hHeld
          obtain ⟨W9, hW9⟩ : ∃ W9, W9 = (wr1).setRow w.heap.size (⟨2, (us : Int), 0, 0, 0, 0, 0, ⟨#[]⟩⟩ : St).cells := ⟨_, rfl⟩
          have HR' := HRr.out
          rw [← hW9] at HR' hB9 ⊢
          clear hW9 hy0 hHeld HRr
          go_wp2_with fail
          exact bodyPost_ret (res8p _ _ w.heap.size (⟨2, (us : Int), 0, 0, 0, 0, 0, ⟨#[]⟩⟩ : St) true rfl rfl HR') rfl ⟨.inl ⟨(⟨2, (us : Int), 0, 0, 0, 0, 0, ⟨#[]⟩⟩ : St), HE.out, rfl⟩, hB9⟩
      · have hm1 : ((xs.length : Int) == 2) = false := by rw [beq_eq_false_iff_ne]; omega
        have hm2 : ((xs.length : Int) != 2) = true := by rw [bne_iff_ne]; omega
        have HE := Lib.hid (strict_many HK.out (by decide) (show (sp s.data.toList).length ≠ manyK 2 by rw [← HXs.out, List.length_map]; exact hm))
        clear hm
        go_upto_region 13 with fail
        refine wp_region_lit ?_
        refine wpList_load_row rfl 26 _ rfl T rfl 26 (⟨2, 0, 0, 0, 0, 0, 0, ⟨#[]⟩⟩ : St).cells (0, 0) _ HP3.out.t Tryz.underlying26 rfl (hi8 (⟨2, 0, 0, 0, 0, 0, 0, ⟨#[]⟩⟩ : St)) ?_
        obtain ⟨y0, hy0⟩ := HP3.out.r
        refine wpList_store_rowTo rfl 26 _ _ rfl rfl w.heap.size (⟨2, 0, 0, 0, 0, 0, 0, ⟨#[]⟩⟩ : St).cells rfl rfl 26 _ hy0 (hi8 (⟨2, 0, 0, 0, 0, 0, 0, ⟨#[]⟩⟩ : St)) rfl (cells8_one _) ?_
        have HR' := setRow_heap w3 w.heap.size _ (⟨2, 0, 0, 0, 0, 0, 0, ⟨#[]⟩⟩ : St).cells 26 (0, 0) hy0
        have hB9 := (HP3.out.setR (y := (⟨2, 0, 0, 0, 0, 0, 0, ⟨#[]⟩⟩ : St))).b
        obtain ⟨W9, hW9⟩ : ∃ W9, W9 = w3.setRow w.heap.size (⟨2, 0, 0, 0, 0, 0, 0, ⟨#[]⟩⟩ : St).cells := ⟨_, rfl⟩
        rw [← hW9] at HR' hB9 ⊢
        clear hW9 hy0
        go_wp2_with fail
        exact bodyPost_ret (res8p _ _ w.heap.size (⟨2, 0, 0, 0, 0, 0, 0, ⟨#[]⟩⟩ : St) false rfl rfl HR') rfl ⟨.inr ⟨HE.out, (⟨2, 0, 0, 0, 0, 0, 0, ⟨#[]⟩⟩ : St), rfl⟩, hB9⟩

set_option maxHeartbeats 4000000 in
set_option maxRecDepth 100000 in
theorem rparse_3 (s : ByteArray) (hs : s.size ≤ 2000) (hk : kL ((sp s.data.toList).getD 0 []) = 3) (w : World) : Calls Tryz.prog 66 #[.string s] w fun e w' => pP s.data.toList e ∧ Below w.heap.size w w' := by
  have HS := Lib.hid hs
  have HK := Lib.hid hk
  clear hs hk
  go_enter Tryz.func66, Tryz.ntmps66
  go_wp2_with fail
  refine (words_any s (by have := HS.out; omega) _).mono ?_
  rintro _ w1 ⟨⟨v, xs, rfl, hown, hxs⟩, hb1⟩
  have hxn : xs ≠ [] := fun e => sp_ne s.data.toList (by rw [← hxs, e]; rfl)
  have HXn := Lib.hid hxn
  have HXs := Lib.hid hxs
  simp only [World.size_alloc] at hown
  obtain ⟨g, cap, rfl, hpg⟩ := PG.start (w := w) hb1 hown hxn
  have HP := Lib.hid hpg
  have HN := Lib.hid (List.length_pos_iff.2 hxn)
  have H0 : Hid (kL (gx xs 0).data.toList = 3) := Lib.hid (by
    have e : (gx xs 0).data.toList = (sp s.data.toList).getD 0 [] := by
      unfold gx
      rw [← hxs, List.getD_eq_getElem?_getD, List.getD_eq_getElem?_getD, List.getElem?_map]
      cases hx : xs[0]? with
      | none => exact absurd (List.getElem?_eq_none_iff.1 hx) (by have := HN.out; omega)
      | some a => rfl
    rw [e]; exact HK.out)
  clear hown hb1 hpg hxn hxs
  obtain ⟨T, hT⟩ : ∃ T, w1.heap.size = T := ⟨_, rfl⟩
  go_upto_region 3 with fail
  rw [hT] at HP
  obtain ⟨W2, hW2⟩ : ∃ W2, W2 = w1.alloc (.cells St0.cells 26) := ⟨_, rfl⟩
  have HP2 : Hid (PG w W2 T g xs St0) := by rw [hW2]; exact HP
  rw [show w1.alloc (.cells #[.int .i64 0, .int .i64 0, .int .i64 0, .int .i64 0, .int .i64 0, .int .u64 0, .int .u64 0, .string ⟨#[]⟩] 26) = W2 from hW2.symm]
  have hn0 : (0 : Int) < (xs.length : Int) := by have := HN.out; omega
  clear hW2 HP hT
  go_wp2_with fail
  go_loopw [6] (fun i wr => ∃ kq : Nat, i = .int .i64 (kq : Int) ∧ 1 ≤ kq ∧ kq ≤ 9 ∧ Hid (PG w wr T g xs (stK (kx 3 kq)))) (fun i _ => 9 - (RowKit.intOf i).toNat)
  case atStart => exact ⟨1, rfl, by omega, by omega, HP2⟩
  case round =>
    obtain ⟨kq, rfl, hk1, hk9, HP⟩ := hrel
    clear HP2
    by_cases h8 : kq ≤ 8
    · have hk8 : (kq : Int) ≤ 8 := by omega
      have hk0 : (0 : Int) ≤ (kq : Int) := by omega
      go_upto_region 6 with fail
      refine wp_region_held_drew (S := fun V => PG w V T g xs (stK (kx 3 kq))) (by kernel_rfl) (HP.out.below (Below.refl _ _).drew) (fun hHeld => ?_)
      refine wpAnyH_take (i := 0) (oi := _) (v := ?_) rfl (by kernel_rfl) (by kernel_rfl) (by kernel_rfl) (fun _ _ _ h => h) (Or.inl ⟨by rfl, ?_⟩) (by assumption) ?_
      rotate_left
      · (intro W hSw; obtain ⟨⟨c0, c1, c2, c3, c4, c5, c6, c7⟩, _⟩ := PG.cells hSw; have w0 := PG.row hSw 0 HN.out; have hn0n := HN.out; go_simp; try with_reducible rfl)
      try simp only [Act.put, List.getElem_toArray, List.getElem_cons_zero, List.setIfInBounds_toArray, List.set_cons_zero, List.set_cons_succ]
      refine wpAnyH_take (i := 2) (oi := _) (v := ?_) rfl (by kernel_rfl) (by kernel_rfl) (by kernel_rfl) (fun _ _ _ h => h) (Or.inl ⟨by rfl, ?_⟩) (by assumption) ?_
      rotate_left
      · (intro W hSw; obtain ⟨⟨c0, c1, c2, c3, c4, c5, c6, c7⟩, _⟩ := PG.cells hSw; have w0 := PG.row hSw 0 HN.out; have hn0n := HN.out; go_simp; try with_reducible rfl)
      try simp only [Act.put, List.getElem_toArray, List.getElem_cons_succ, List.getElem_cons_zero, List.setIfInBounds_toArray, List.set_cons_zero, List.set_cons_succ]
      refine wpAnyH_take (i := 3) (oi := _) (v := ?_) rfl (by kernel_rfl) (by kernel_rfl) (by kernel_rfl) (fun _ _ _ h => h) (Or.inl ⟨by rfl, ?_⟩) (by assumption) ?_
      rotate_left
      · (intro W hSw; obtain ⟨⟨c0, c1, c2, c3, c4, c5, c6, c7⟩, _⟩ := PG.cells hSw; have w0 := PG.row hSw 0 HN.out; have hn0n := HN.out; go_simp; try with_reducible rfl)
      try simp only [Act.put, List.getElem_toArray, List.getElem_cons_succ, List.getElem_cons_zero, List.setIfInBounds_toArray, List.set_cons_zero, List.set_cons_succ]
      refine wpAnyH_take (i := 4) (oi := _) (v := ?_) rfl (by kernel_rfl) (by kernel_rfl) (by kernel_rfl) (fun _ _ _ h => h) (Or.inl ⟨by rfl, ?_⟩) (by assumption) ?_
      rotate_left
      · (intro W hSw; obtain ⟨⟨c0, c1, c2, c3, c4, c5, c6, c7⟩, _⟩ := PG.cells hSw; have w0 := PG.row hSw 0 HN.out; have hn0n := HN.out; go_simp; try with_reducible rfl)
      try simp only [Act.put, List.getElem_toArray, List.getElem_cons_succ, List.getElem_cons_zero, List.setIfInBounds_toArray, List.set_cons_zero, List.set_cons_succ]
      refine wpAnyH_ready (rs := [1]) (by kernel_rfl) (by simp) ?_
      refine AllReadyH.cons rfl (fun K hK => ?_) AllReadyH.nil
      simp only [List.getElem_toArray, List.getElem_cons_succ, List.getElem_cons_zero]
      rw [if_pos (by rfl)]
      go_simp
      refine (rword_any kq hk1 h8 _).mono ?_
      rintro _ wb ⟨rfl, hb⟩
      go_wp2_with fail
      refine hK.out _ _ (PG.below hHeld hb) (fun hHeld => ?_)
      clear hK K
      try simp only [Act.put, List.getElem_toArray, List.getElem_cons_succ, List.getElem_cons_zero, List.setIfInBounds_toArray, List.set_cons_zero, List.set_cons_succ]
      refine wpAnyH_take (i := 5) (oi := _) (v := ?_) rfl (by kernel_rfl) (by kernel_rfl) (by kernel_rfl) (fun _ _ _ h => h) (Or.inl ⟨by rfl, ?_⟩) (by assumption) ?_
      rotate_left
      · (intro W hSw; obtain ⟨⟨c0, c1, c2, c3, c4, c5, c6, c7⟩, _⟩ := PG.cells hSw; have w0 := PG.row hSw 0 HN.out; have hn0n := HN.out; go_simp; try with_reducible rfl)
      try simp only [Act.put, List.getElem_toArray, List.getElem_cons_succ, List.getElem_cons_zero, List.setIfInBounds_toArray, List.set_cons_zero, List.set_cons_succ]
      refine wpAnyH_done (by kernel_rfl) ?_ _
      have HPb := Lib.hid hHeld
      clear hHeld HP
      by_cases he : kq = 3
      · subst he
        have e1 : ((wdB 3).toList == (gx xs 0).toList) = true := by
          rw [beq_iff_eq, ByteArray.toList_eq, ByteArray.toList_eq, wd_kL H0.out (by decide)]; rfl
        rw [e1]
        clear e1
        obtain ⟨⟨c0, c1, c2, c3, c4, c5, c6, c7⟩, z0, z1, z2, z3, z4, z6, z7⟩ := HPb.out.cells
        have hgT := HPb.out.hT
        clear hk1 hk9 h8 hk8 hk0
        go_wp2
        go_roundw
        case rel => exact ⟨3 + 1, by go_num, by omega, by omega, Lib.hid (HPb.out.set 0 _ rfl)⟩
        case measure => simp [RowKit.intOf]
      have e1 : ((wdB kq).toList == (gx xs 0).toList) = false := tl_ne fun e => he (by
        have := H0.out
        rw [← e] at this
        exact (kL_first hk1 h8 (by simp [wdB])).symm.trans this)
      rw [← kx_ne he] at HPb
      have HE9 := Lib.hid (And.intro hk1 h8)
      clear he hk1 hk9 h8
      rw [e1]
      clear e1
      go_wp2
      go_roundw
      case rel => exact ⟨kq + 1, by go_num, by omega, by have := HE9.out; omega, HPb⟩
      case measure => have := HE9.out; simp [RowKit.intOf]; omega
    · obtain rfl : kq = 9 := by omega
      rw [show stK (kx 3 9) = (⟨3, 0, 0, 0, 0, 0, 0, ⟨#[]⟩⟩ : St) from rfl] at HP
      clear h8 hk1 hk9
      obtain ⟨⟨c0, c1, c2, c3, c4, c5, c6, c7⟩, z0, z1, z2, z3, z4, z6, z7⟩ := HP.out.cells
      dsimp only at c0 c1 c2 c3 c4 c5 c6 c7
      go_wp2_with fail
      refine (St15.has_3 _).mono ?_
      rintro _ w3 ⟨rfl, hb3⟩
      have HP3 := Lib.hid (HP.out.below hb3)
      clear hb3 HP
      clear c0 c1 c2 c3 c4 c5 c6 c7 z0 z1 z2 z3 z4 z6 z7
      obtain ⟨⟨c0, c1, c2, c3, c4, c5, c6, c7⟩, z0, z1, z2, z3, z4, z6, z7⟩ := HP3.out.cells
      dsimp only at c0 c1 c2 c3 c4 c5 c6 c7
      go_wp2_with fail
      refine (St15.in_p_112 _).mono ?_
      rintro _ wq ⟨rfl, hq⟩
      obtain rfl := hq.symm
      clear hq
      by_cases hm : xs.length = 5
      · have hm1 : ((xs.length : Int) == 5) = true := by rw [hm]; rfl
        have hm2 : ((xs.length : Int) != 5) = false := by rw [hm]; rfl
        have HM := Lib.hid hm
        clear hm
        go_wp2_with fail
        refine (St15.in_p_115 _).mono ?_
        rintro _ wq ⟨rfl, hq⟩
        obtain rfl := hq.symm
        clear hq
        go_wp2_with fail
        refine (in_p_110 _).mono ?_
        rintro _ wq ⟨rfl, hq⟩
        obtain rfl := hq.symm
        clear hq
        go_wp2_with fail
        refine (St15.in_p_112 _).mono ?_
        rintro _ wq ⟨rfl, hq⟩
        obtain rfl := hq.symm
        clear hq
        have w1 := HP3.out.row 1 (by have := HM.out; omega)
        have hl0 : 1 < xs.length := by have := HM.out; omega
        have hl1 : (1 : Int) < (xs.length : Int) := by omega
        have hgT := HP3.out.hT
        go_wp2_with fail
        refine (small_any (gx xs 1) (by have := xs_sz HXs.out 1; have := HS.out; omega) 3 (by decide) _).mono ?_
        rintro _ wq ⟨rfl, hq⟩
        obtain rfl := hq.symm
        clear hq
        unfold smE
        obtain ⟨n0, hn0⟩ : ∃ u : Nat, (sm (gx xs 1).data.toList 3).getD 0 = u := ⟨_, rfl⟩
        obtain ⟨b0, hb0⟩ : ∃ b : Bool, (sm (gx xs 1).data.toList 3).isSome = b := ⟨_, rfl⟩
        rw [hn0, hb0]
        have HN0 := Lib.hid hn0
        have HB0 := Lib.hid hb0
        clear hn0 hb0
        go_upto_region 24 with fail
        have HG0 := Lib.hid (HP3.out.set (x' := (⟨3, 0, 0, (n0 : Int), 0, 0, 0, ⟨#[]⟩⟩ : St)) 3 (.int .i64 (n0 : Int)) rfl)
        generalize w3.setCell ⟨T, 3, none⟩ (.int .i64 (n0 : Int)) = WG0 at HG0 ⊢
        clear c0 c1 c2 c3 c4 c5 c6 c7 z0 z1 z2 z3 z4 z6 z7 w1 hl0 hl1 hgT
        obtain ⟨⟨c0, c1, c2, c3, c4, c5, c6, c7⟩, z0, z1, z2, z3, z4, z6, z7⟩ := HG0.out.cells
        dsimp only at c0 c1 c2 c3 c4 c5 c6 c7
        have w2 := HG0.out.row 2 (by have := HM.out; omega)
        have hl0 : 2 < xs.length := by have := HM.out; omega
        have hl1 : (2 : Int) < (xs.length : Int) := by omega
        have hgT := HG0.out.hT
        go_wp2_with fail
        refine (small_any (gx xs 2) (by have := xs_sz HXs.out 2; have := HS.out; omega) 1 (by decide) _).mono ?_
        rintro _ wq ⟨rfl, hq⟩
        obtain rfl := hq.symm
        clear hq
        unfold smE
        obtain ⟨n1, hn1⟩ : ∃ u : Nat, (sm (gx xs 2).data.toList 1).getD 0 = u := ⟨_, rfl⟩
        obtain ⟨b1, hb1⟩ : ∃ b : Bool, (sm (gx xs 2).data.toList 1).isSome = b := ⟨_, rfl⟩
        rw [hn1, hb1]
        have HN1 := Lib.hid hn1
        have HB1 := Lib.hid hb1
        clear hn1 hb1
        go_upto_region 25 with fail
        have HG1 := Lib.hid (HG0.out.set (x' := (⟨3, 0, 0, (n0 : Int), (n1 : Int), 0, 0, ⟨#[]⟩⟩ : St)) 4 (.int .i64 (n1 : Int)) rfl)
        generalize WG0.setCell ⟨T, 4, none⟩ (.int .i64 (n1 : Int)) = WG1 at HG1 ⊢
        clear c0 c1 c2 c3 c4 c5 c6 c7 z0 z1 z2 z3 z4 z6 z7 w2 hl0 hl1 hgT
        obtain ⟨⟨c0, c1, c2, c3, c4, c5, c6, c7⟩, z0, z1, z2, z3, z4, z6, z7⟩ := HG1.out.cells
        dsimp only at c0 c1 c2 c3 c4 c5 c6 c7
        have w3 := HG1.out.row 3 (by have := HM.out; omega)
        have hl0 : 3 < xs.length := by have := HM.out; omega
        have hl1 : (3 : Int) < (xs.length : Int) := by omega
        have hgT := HG1.out.hT
        go_wp2_with fail
        refine (number_any (gx xs 3) (by have := xs_sz HXs.out 3; have := HS.out; omega) _).mono ?_
        rintro _ wq ⟨rfl, hq⟩
        obtain rfl := hq.symm
        clear hq
        unfold numE
        obtain ⟨n2, hn2⟩ : ∃ u : Nat, (numL (gx xs 3).data.toList).getD 0 = u := ⟨_, rfl⟩
        obtain ⟨b2, hb2⟩ : ∃ b : Bool, (numL (gx xs 3).data.toList).isSome = b := ⟨_, rfl⟩
        rw [hn2, hb2]
        have HN2 := Lib.hid hn2
        have HB2 := Lib.hid hb2
        clear hn2 hb2
        go_upto_region 26 with fail
        have HG2 := Lib.hid (HG1.out.set (x' := (⟨3, 0, 0, (n0 : Int), (n1 : Int), 0, (n2 : Int), ⟨#[]⟩⟩ : St)) 6 (.int .u64 (n2 : Int)) rfl)
        generalize WG1.setCell ⟨T, 6, none⟩ (.int .u64 (n2 : Int)) = WG2 at HG2 ⊢
        clear c0 c1 c2 c3 c4 c5 c6 c7 z0 z1 z2 z3 z4 z6 z7 w3 hl0 hl1 hgT
        obtain ⟨⟨c0, c1, c2, c3, c4, c5, c6, c7⟩, z0, z1, z2, z3, z4, z6, z7⟩ := HG2.out.cells
        dsimp only at c0 c1 c2 c3 c4 c5 c6 c7
        have w4 := HG2.out.row 4 (by have := HM.out; omega)
        have hl0 : 4 < xs.length := by have := HM.out; omega
        have hl1 : (4 : Int) < (xs.length : Int) := by omega
        go_wp2_with fail
        refine (bytes_any (gx xs 4) (by have := xs_sz HXs.out 4; have := HS.out; omega) _).mono ?_
        rintro _ wy ⟨rfl, hby⟩
        have HGy := Lib.hid (HG2.out.below hby)
        unfold byE
        obtain ⟨y3, hy3⟩ : ∃ y : ByteArray, (⟨((bytesL (gx xs 4).data.toList).getD []).toArray⟩ : ByteArray) = y := ⟨_, rfl⟩
        obtain ⟨b3, hb3'⟩ : ∃ b : Bool, (bytesL (gx xs 4).data.toList).isSome = b := ⟨_, rfl⟩
        rw [hy3, hb3']
        have HY3 := Lib.hid hy3
        have HB3 := Lib.hid hb3'
        clear hy3 hb3' hby c0 c1 c2 c3 c4 c5 c6 c7 z0 z1 z2 z3 z4 z6 z7 w4 hl0 hl1
        obtain ⟨⟨c0, c1, c2, c3, c4, c5, c6, c7⟩, z0, z1, z2, z3, z4, z6, z7⟩ := HGy.out.cells
        dsimp only at c0 c1 c2 c3 c4 c5 c6 c7
        have hgT := HGy.out.hT
        go_upto_region 27 with fail
        have HG3 := Lib.hid (HGy.out.set (x' := (⟨3, 0, 0, (n0 : Int), (n1 : Int), 0, (n2 : Int), y3⟩ : St)) 7 (.string y3) rfl)
        generalize wy.setCell ⟨T, 7, none⟩ (.string y3) = WG3 at HG3 ⊢
        clear c0 c1 c2 c3 c4 c5 c6 c7 z0 z1 z2 z3 z4 z6 z7 hgT
        obtain ⟨⟨c0, c1, c2, c3, c4, c5, c6, c7⟩, z0, z1, z2, z3, z4, z6, z7⟩ := HG3.out.cells
        dsimp only at c0 c1 c2 c3 c4 c5 c6 c7
        cases b0 with
        | false =>
          have HE := Lib.hid (show strict (sp s.data.toList) = none by rw [strict_five HK.out (show sp s.data.toList = _ by rw [← HXs.out]; exact five5 HM.out)]; rw [none_of HB0.out]; rfl)
          go_upto_region 28 with fail
          clear c0 c1 c2 c3 c4 c5 c6 c7 z0 z1 z2 z3 z4 z6 z7
          refine wp_region_held_drew (S := fun V => PG w V T g xs (⟨3, 0, 0, (n0 : Int), (n1 : Int), 0, (n2 : Int), y3⟩ : St)) (by kernel_rfl) (HG3.out.below (Below.refl _ _).drew) (fun hHeld => ?_)
          refine wpAnyH_take (i := 0) (oi := _) (v := ?_) rfl (by kernel_rfl) (by kernel_rfl) (by kernel_rfl) (fun _ _ _ h => h) (Or.inl ⟨by rfl, ?_⟩) (by assumption) ?_
          rotate_left
          · (intro W hSw; obtain ⟨⟨c0, c1, c2, c3, c4, c5, c6, c7⟩, _⟩ := PG.cells hSw; dsimp only at c0 c1 c2 c3 c4 c5 c6 c7; have hgT := PG.hT hSw; have hgw := PG.hg hSw; go_simp; try with_reducible rfl)
          try simp only [Act.put, List.getElem_toArray, List.getElem_cons_zero, List.setIfInBounds_toArray, List.set_cons_zero, List.set_cons_succ]
          refine wpAnyH_take (i := 1) (oi := _) (v := ?_) rfl (by kernel_rfl) (by kernel_rfl) (by kernel_rfl) (fun _ _ _ h => h) (Or.inl ⟨by rfl, ?_⟩) (by assumption) ?_
          rotate_left
          · (intro W hSw; obtain ⟨⟨c0, c1, c2, c3, c4, c5, c6, c7⟩, _⟩ := PG.cells hSw; dsimp only at c0 c1 c2 c3 c4 c5 c6 c7; have hgT := PG.hT hSw; have hgw := PG.hg hSw; go_simp; try with_reducible rfl)
          try simp only [Act.put, List.getElem_toArray, List.getElem_cons_succ, List.getElem_cons_zero, List.setIfInBounds_toArray, List.set_cons_zero, List.set_cons_succ]
          refine wpAnyH_take (i := 2) (oi := _) (v := ?_) rfl (by kernel_rfl) (by kernel_rfl) (by kernel_rfl) (fun _ _ _ h => h) (Or.inl ⟨by rfl, ?_⟩) (by assumption) ?_
          rotate_left
          · (intro W hSw; obtain ⟨⟨c0, c1, c2, c3, c4, c5, c6, c7⟩, _⟩ := PG.cells hSw; dsimp only at c0 c1 c2 c3 c4 c5 c6 c7; have hgT := PG.hT hSw; have hgw := PG.hg hSw; go_simp; try with_reducible rfl)
          try simp only [Act.put, List.getElem_toArray, List.getElem_cons_succ, List.getElem_cons_zero, List.setIfInBounds_toArray, List.set_cons_zero, List.set_cons_succ]
          refine wpAnyH_take (i := 3) (oi := _) (v := undef) rfl (by kernel_rfl) (by kernel_rfl) (by kernel_rfl) (fun _ _ _ h => h) (Or.inr ⟨by rfl, rfl⟩) (by assumption) ?_
          try simp only [Act.put, List.getElem_toArray, List.getElem_cons_succ, List.getElem_cons_zero, List.setIfInBounds_toArray, List.set_cons_zero, List.set_cons_succ]
          refine wpAnyH_take (i := 4) (oi := _) (v := undef) rfl (by kernel_rfl) (by kernel_rfl) (by kernel_rfl) (fun _ _ _ h => h) (Or.inr ⟨by rfl, rfl⟩) (by assumption) ?_
          try simp only [Act.put, List.getElem_toArray, List.getElem_cons_succ, List.getElem_cons_zero, List.setIfInBounds_toArray, List.set_cons_zero, List.set_cons_succ]
          refine wpAnyH_take (i := 5) (oi := _) (v := ?_) rfl (by kernel_rfl) (by kernel_rfl) (by kernel_rfl) (fun _ _ _ h => h) (Or.inl ⟨by rfl, ?_⟩) (by assumption) ?_
          rotate_left
          · (intro W hSw; obtain ⟨⟨c0, c1, c2, c3, c4, c5, c6, c7⟩, _⟩ := PG.cells hSw; dsimp only at c0 c1 c2 c3 c4 c5 c6 c7; have hgT := PG.hT hSw; have hgw := PG.hg hSw; go_simp; try with_reducible rfl)
          try simp only [Act.put, List.getElem_toArray, List.getElem_cons_succ, List.getElem_cons_zero, List.setIfInBounds_toArray, List.set_cons_zero, List.set_cons_succ]
          obtain ⟨y0, hy0⟩ := PG.r hHeld
          have HRr := Lib.hid (setRow_heap (WG3.drew) w.heap.size _ (⟨3, 0, 0, (n0 : Int), (n1 : Int), 0, (n2 : Int), y3⟩ : St).cells 26 (0, 0) hy0)
          refine wpAnyH_ready (rs := [6]) (by kernel_rfl) (by simp) ?_
          refine AllReadyH.cons rfl (fun K hK => ?_) AllReadyH.nil
          simp only [List.getElem_toArray, List.getElem_cons_succ, List.getElem_cons_zero]
          rw [if_pos (by rfl)]
          refine wp_store_row 26 _ _ rfl w.heap.size (⟨3, 0, 0, (n0 : Int), (n1 : Int), 0, (n2 : Int), y3⟩ : St).cells rfl rfl 26 _ hy0 (hi8 (⟨3, 0, 0, (n0 : Int), (n1 : Int), 0, (n2 : Int), y3⟩ : St)) rfl (cells8_one _) ?_
          refine hK.out _ _ (PG.setR hHeld) (fun hHeld => ?_)
          clear hK K
          try simp only [Act.put, List.setIfInBounds_toArray, List.set_cons_zero, List.set_cons_succ]
          refine wpAnyH_take (i := 7) (oi := _) (v := ?_) rfl (by kernel_rfl) (by kernel_rfl) (by kernel_rfl) (fun _ _ _ h => h) (Or.inl ⟨by rfl, ?_⟩) (by assumption) ?_
          rotate_left
          · (intro W hSw; skip; go_simp; try with_reducible rfl)
          try simp only [Act.put, List.getElem_toArray, List.getElem_cons_succ, List.getElem_cons_zero, List.setIfInBounds_toArray, List.set_cons_zero, List.set_cons_succ]
          refine wpAnyH_done (by kernel_rfl) ?_ _
          have hB9 := PG.b hHeld
          obtain ⟨W9, hW9⟩ : ∃ W9, W9 = (WG3.drew).setRow w.heap.size (⟨3, 0, 0, (n0 : Int), (n1 : Int), 0, (n2 : Int), y3⟩ : St).cells := ⟨_, rfl⟩
          have HR' := HRr.out
          rw [← hW9] at HR' hB9 ⊢
          clear hW9 hy0 hHeld HRr
          go_wp2_with fail
          exact bodyPost_ret (res8p _ _ w.heap.size (⟨3, 0, 0, (n0 : Int), (n1 : Int), 0, (n2 : Int), y3⟩ : St) false rfl rfl HR') rfl ⟨.inr ⟨HE.out, (⟨3, 0, 0, (n0 : Int), (n1 : Int), 0, (n2 : Int), y3⟩ : St), rfl⟩, hB9⟩
        | true =>
          cases b1 with
          | false =>
            have HE := Lib.hid (show strict (sp s.data.toList) = none by obtain ⟨q0, hq0⟩ := Option.isSome_iff_exists.1 HB0.out; rw [strict_five HK.out (show sp s.data.toList = _ by rw [← HXs.out]; exact five5 HM.out)]; rw [hq0]; show Option.bind _ _ = _; rw [none_of HB1.out]; rfl)
            go_upto_region 28 with fail
            clear c0 c1 c2 c3 c4 c5 c6 c7 z0 z1 z2 z3 z4 z6 z7
            refine wp_region_held_drew (S := fun V => PG w V T g xs (⟨3, 0, 0, (n0 : Int), (n1 : Int), 0, (n2 : Int), y3⟩ : St)) (by kernel_rfl) (HG3.out.below (Below.refl _ _).drew) (fun hHeld => ?_)
            refine wpAnyH_take (i := 0) (oi := _) (v := ?_) rfl (by kernel_rfl) (by kernel_rfl) (by kernel_rfl) (fun _ _ _ h => h) (Or.inl ⟨by rfl, ?_⟩) (by assumption) ?_
            rotate_left
            · (intro W hSw; obtain ⟨⟨c0, c1, c2, c3, c4, c5, c6, c7⟩, _⟩ := PG.cells hSw; dsimp only at c0 c1 c2 c3 c4 c5 c6 c7; have hgT := PG.hT hSw; have hgw := PG.hg hSw; go_simp; try with_reducible rfl)
            try simp only [Act.put, List.getElem_toArray, List.getElem_cons_zero, List.setIfInBounds_toArray, List.set_cons_zero, List.set_cons_succ]
            refine wpAnyH_take (i := 1) (oi := _) (v := ?_) rfl (by kernel_rfl) (by kernel_rfl) (by kernel_rfl) (fun _ _ _ h => h) (Or.inl ⟨by rfl, ?_⟩) (by assumption) ?_
            rotate_left
            · (intro W hSw; obtain ⟨⟨c0, c1, c2, c3, c4, c5, c6, c7⟩, _⟩ := PG.cells hSw; dsimp only at c0 c1 c2 c3 c4 c5 c6 c7; have hgT := PG.hT hSw; have hgw := PG.hg hSw; go_simp; try with_reducible rfl)
            try simp only [Act.put, List.getElem_toArray, List.getElem_cons_succ, List.getElem_cons_zero, List.setIfInBounds_toArray, List.set_cons_zero, List.set_cons_succ]
            refine wpAnyH_take (i := 2) (oi := _) (v := ?_) rfl (by kernel_rfl) (by kernel_rfl) (by kernel_rfl) (fun _ _ _ h => h) (Or.inl ⟨by rfl, ?_⟩) (by assumption) ?_
            rotate_left
            · (intro W hSw; obtain ⟨⟨c0, c1, c2, c3, c4, c5, c6, c7⟩, _⟩ := PG.cells hSw; dsimp only at c0 c1 c2 c3 c4 c5 c6 c7; have hgT := PG.hT hSw; have hgw := PG.hg hSw; go_simp; try with_reducible rfl)
            try simp only [Act.put, List.getElem_toArray, List.getElem_cons_succ, List.getElem_cons_zero, List.setIfInBounds_toArray, List.set_cons_zero, List.set_cons_succ]
            refine wpAnyH_take (i := 3) (oi := _) (v := undef) rfl (by kernel_rfl) (by kernel_rfl) (by kernel_rfl) (fun _ _ _ h => h) (Or.inr ⟨by rfl, rfl⟩) (by assumption) ?_
            try simp only [Act.put, List.getElem_toArray, List.getElem_cons_succ, List.getElem_cons_zero, List.setIfInBounds_toArray, List.set_cons_zero, List.set_cons_succ]
            refine wpAnyH_take (i := 4) (oi := _) (v := undef) rfl (by kernel_rfl) (by kernel_rfl) (by kernel_rfl) (fun _ _ _ h => h) (Or.inr ⟨by rfl, rfl⟩) (by assumption) ?_
            try simp only [Act.put, List.getElem_toArray, List.getElem_cons_succ, List.getElem_cons_zero, List.setIfInBounds_toArray, List.set_cons_zero, List.set_cons_succ]
            refine wpAnyH_take (i := 5) (oi := _) (v := ?_) rfl (by kernel_rfl) (by kernel_rfl) (by kernel_rfl) (fun _ _ _ h => h) (Or.inl ⟨by rfl, ?_⟩) (by assumption) ?_
            rotate_left
            · (intro W hSw; obtain ⟨⟨c0, c1, c2, c3, c4, c5, c6, c7⟩, _⟩ := PG.cells hSw; dsimp only at c0 c1 c2 c3 c4 c5 c6 c7; have hgT := PG.hT hSw; have hgw := PG.hg hSw; go_simp; try with_reducible rfl)
            try simp only [Act.put, List.getElem_toArray, List.getElem_cons_succ, List.getElem_cons_zero, List.setIfInBounds_toArray, List.set_cons_zero, List.set_cons_succ]
            obtain ⟨y0, hy0⟩ := PG.r hHeld
            have HRr := Lib.hid (setRow_heap (WG3.drew) w.heap.size _ (⟨3, 0, 0, (n0 : Int), (n1 : Int), 0, (n2 : Int), y3⟩ : St).cells 26 (0, 0) hy0)
            refine wpAnyH_ready (rs := [6]) (by kernel_rfl) (by simp) ?_
            refine AllReadyH.cons rfl (fun K hK => ?_) AllReadyH.nil
            simp only [List.getElem_toArray, List.getElem_cons_succ, List.getElem_cons_zero]
            rw [if_pos (by rfl)]
            refine wp_store_row 26 _ _ rfl w.heap.size (⟨3, 0, 0, (n0 : Int), (n1 : Int), 0, (n2 : Int), y3⟩ : St).cells rfl rfl 26 _ hy0 (hi8 (⟨3, 0, 0, (n0 : Int), (n1 : Int), 0, (n2 : Int), y3⟩ : St)) rfl (cells8_one _) ?_
            refine hK.out _ _ (PG.setR hHeld) (fun hHeld => ?_)
            clear hK K
            try simp only [Act.put, List.setIfInBounds_toArray, List.set_cons_zero, List.set_cons_succ]
            refine wpAnyH_take (i := 7) (oi := _) (v := ?_) rfl (by kernel_rfl) (by kernel_rfl) (by kernel_rfl) (fun _ _ _ h => h) (Or.inl ⟨by rfl, ?_⟩) (by assumption) ?_
            rotate_left
            · (intro W hSw; skip; go_simp; try with_reducible rfl)
            try simp only [Act.put, List.getElem_toArray, List.getElem_cons_succ, List.getElem_cons_zero, List.setIfInBounds_toArray, List.set_cons_zero, List.set_cons_succ]
            refine wpAnyH_done (by kernel_rfl) ?_ _
            have hB9 := PG.b hHeld
            obtain ⟨W9, hW9⟩ : ∃ W9, W9 = (WG3.drew).setRow w.heap.size (⟨3, 0, 0, (n0 : Int), (n1 : Int), 0, (n2 : Int), y3⟩ : St).cells := ⟨_, rfl⟩
            have HR' := HRr.out
            rw [← hW9] at HR' hB9 ⊢
            clear hW9 hy0 hHeld HRr
            go_wp2_with fail
            exact bodyPost_ret (res8p _ _ w.heap.size (⟨3, 0, 0, (n0 : Int), (n1 : Int), 0, (n2 : Int), y3⟩ : St) false rfl rfl HR') rfl ⟨.inr ⟨HE.out, (⟨3, 0, 0, (n0 : Int), (n1 : Int), 0, (n2 : Int), y3⟩ : St), rfl⟩, hB9⟩
          | true =>
            cases b2 with
            | false =>
              have HE := Lib.hid (show strict (sp s.data.toList) = none by obtain ⟨q0, hq0⟩ := Option.isSome_iff_exists.1 HB0.out; obtain ⟨q1, hq1⟩ := Option.isSome_iff_exists.1 HB1.out; rw [strict_five HK.out (show sp s.data.toList = _ by rw [← HXs.out]; exact five5 HM.out)]; rw [hq0]; show Option.bind _ _ = _; rw [hq1]; show Option.bind _ _ = _; rw [none_of HB2.out]; rfl)
              go_upto_region 28 with fail
              clear c0 c1 c2 c3 c4 c5 c6 c7 z0 z1 z2 z3 z4 z6 z7
              refine wp_region_held_drew (S := fun V => PG w V T g xs (⟨3, 0, 0, (n0 : Int), (n1 : Int), 0, (n2 : Int), y3⟩ : St)) (by kernel_rfl) (HG3.out.below (Below.refl _ _).drew) (fun hHeld => ?_)
              refine wpAnyH_take (i := 0) (oi := _) (v := ?_) rfl (by kernel_rfl) (by kernel_rfl) (by kernel_rfl) (fun _ _ _ h => h) (Or.inl ⟨by rfl, ?_⟩) (by assumption) ?_
              rotate_left
              · (intro W hSw; obtain ⟨⟨c0, c1, c2, c3, c4, c5, c6, c7⟩, _⟩ := PG.cells hSw; dsimp only at c0 c1 c2 c3 c4 c5 c6 c7; have hgT := PG.hT hSw; have hgw := PG.hg hSw; go_simp; try with_reducible rfl)
              try simp only [Act.put, List.getElem_toArray, List.getElem_cons_zero, List.setIfInBounds_toArray, List.set_cons_zero, List.set_cons_succ]
              refine wpAnyH_take (i := 1) (oi := _) (v := ?_) rfl (by kernel_rfl) (by kernel_rfl) (by kernel_rfl) (fun _ _ _ h => h) (Or.inl ⟨by rfl, ?_⟩) (by assumption) ?_
              rotate_left
              · (intro W hSw; obtain ⟨⟨c0, c1, c2, c3, c4, c5, c6, c7⟩, _⟩ := PG.cells hSw; dsimp only at c0 c1 c2 c3 c4 c5 c6 c7; have hgT := PG.hT hSw; have hgw := PG.hg hSw; go_simp; try with_reducible rfl)
              try simp only [Act.put, List.getElem_toArray, List.getElem_cons_succ, List.getElem_cons_zero, List.setIfInBounds_toArray, List.set_cons_zero, List.set_cons_succ]
              refine wpAnyH_take (i := 2) (oi := _) (v := ?_) rfl (by kernel_rfl) (by kernel_rfl) (by kernel_rfl) (fun _ _ _ h => h) (Or.inl ⟨by rfl, ?_⟩) (by assumption) ?_
              rotate_left
              · (intro W hSw; obtain ⟨⟨c0, c1, c2, c3, c4, c5, c6, c7⟩, _⟩ := PG.cells hSw; dsimp only at c0 c1 c2 c3 c4 c5 c6 c7; have hgT := PG.hT hSw; have hgw := PG.hg hSw; go_simp; try with_reducible rfl)
              try simp only [Act.put, List.getElem_toArray, List.getElem_cons_succ, List.getElem_cons_zero, List.setIfInBounds_toArray, List.set_cons_zero, List.set_cons_succ]
              refine wpAnyH_take (i := 3) (oi := _) (v := undef) rfl (by kernel_rfl) (by kernel_rfl) (by kernel_rfl) (fun _ _ _ h => h) (Or.inr ⟨by rfl, rfl⟩) (by assumption) ?_
              try simp only [Act.put, List.getElem_toArray, List.getElem_cons_succ, List.getElem_cons_zero, List.setIfInBounds_toArray, List.set_cons_zero, List.set_cons_succ]
              refine wpAnyH_take (i := 4) (oi := _) (v := undef) rfl (by kernel_rfl) (by kernel_rfl) (by kernel_rfl) (fun _ _ _ h => h) (Or.inr ⟨by rfl, rfl⟩) (by assumption) ?_
              try simp only [Act.put, List.getElem_toArray, List.getElem_cons_succ, List.getElem_cons_zero, List.setIfInBounds_toArray, List.set_cons_zero, List.set_cons_succ]
              refine wpAnyH_take (i := 5) (oi := _) (v := ?_) rfl (by kernel_rfl) (by kernel_rfl) (by kernel_rfl) (fun _ _ _ h => h) (Or.inl ⟨by rfl, ?_⟩) (by assumption) ?_
              rotate_left
              · (intro W hSw; obtain ⟨⟨c0, c1, c2, c3, c4, c5, c6, c7⟩, _⟩ := PG.cells hSw; dsimp only at c0 c1 c2 c3 c4 c5 c6 c7; have hgT := PG.hT hSw; have hgw := PG.hg hSw; go_simp; try with_reducible rfl)
              try simp only [Act.put, List.getElem_toArray, List.getElem_cons_succ, List.getElem_cons_zero, List.setIfInBounds_toArray, List.set_cons_zero, List.set_cons_succ]
              obtain ⟨y0, hy0⟩ := PG.r hHeld
              have HRr := Lib.hid (setRow_heap (WG3.drew) w.heap.size _ (⟨3, 0, 0, (n0 : Int), (n1 : Int), 0, (n2 : Int), y3⟩ : St).cells 26 (0, 0) hy0)
              refine wpAnyH_ready (rs := [6]) (by kernel_rfl) (by simp) ?_
              refine AllReadyH.cons rfl (fun K hK => ?_) AllReadyH.nil
              simp only [List.getElem_toArray, List.getElem_cons_succ, List.getElem_cons_zero]
              rw [if_pos (by rfl)]
              refine wp_store_row 26 _ _ rfl w.heap.size (⟨3, 0, 0, (n0 : Int), (n1 : Int), 0, (n2 : Int), y3⟩ : St).cells rfl rfl 26 _ hy0 (hi8 (⟨3, 0, 0, (n0 : Int), (n1 : Int), 0, (n2 : Int), y3⟩ : St)) rfl (cells8_one _) ?_
              refine hK.out _ _ (PG.setR hHeld) (fun hHeld => ?_)
              clear hK K
              try simp only [Act.put, List.setIfInBounds_toArray, List.set_cons_zero, List.set_cons_succ]
              refine wpAnyH_take (i := 7) (oi := _) (v := ?_) rfl (by kernel_rfl) (by kernel_rfl) (by kernel_rfl) (fun _ _ _ h => h) (Or.inl ⟨by rfl, ?_⟩) (by assumption) ?_
              rotate_left
              · (intro W hSw; skip; go_simp; try with_reducible rfl)
              try simp only [Act.put, List.getElem_toArray, List.getElem_cons_succ, List.getElem_cons_zero, List.setIfInBounds_toArray, List.set_cons_zero, List.set_cons_succ]
              refine wpAnyH_done (by kernel_rfl) ?_ _
              have hB9 := PG.b hHeld
              obtain ⟨W9, hW9⟩ : ∃ W9, W9 = (WG3.drew).setRow w.heap.size (⟨3, 0, 0, (n0 : Int), (n1 : Int), 0, (n2 : Int), y3⟩ : St).cells := ⟨_, rfl⟩
              have HR' := HRr.out
              rw [← hW9] at HR' hB9 ⊢
              clear hW9 hy0 hHeld HRr
              go_wp2_with fail
              exact bodyPost_ret (res8p _ _ w.heap.size (⟨3, 0, 0, (n0 : Int), (n1 : Int), 0, (n2 : Int), y3⟩ : St) false rfl rfl HR') rfl ⟨.inr ⟨HE.out, (⟨3, 0, 0, (n0 : Int), (n1 : Int), 0, (n2 : Int), y3⟩ : St), rfl⟩, hB9⟩
            | true =>
              cases b3 with
              | false =>
                have HE := Lib.hid (show strict (sp s.data.toList) = none by obtain ⟨q0, hq0⟩ := Option.isSome_iff_exists.1 HB0.out; obtain ⟨q1, hq1⟩ := Option.isSome_iff_exists.1 HB1.out; obtain ⟨q2, hq2⟩ := Option.isSome_iff_exists.1 HB2.out; rw [strict_five HK.out (show sp s.data.toList = _ by rw [← HXs.out]; exact five5 HM.out)]; rw [hq0]; show Option.bind _ _ = _; rw [hq1]; show Option.bind _ _ = _; rw [hq2]; show Option.bind _ _ = _; rw [none_of HB3.out]; rfl)
                go_upto_region 28 with fail
                clear c0 c1 c2 c3 c4 c5 c6 c7 z0 z1 z2 z3 z4 z6 z7
                refine wp_region_held_drew (S := fun V => PG w V T g xs (⟨3, 0, 0, (n0 : Int), (n1 : Int), 0, (n2 : Int), y3⟩ : St)) (by kernel_rfl) (HG3.out.below (Below.refl _ _).drew) (fun hHeld => ?_)
                refine wpAnyH_take (i := 0) (oi := _) (v := ?_) rfl (by kernel_rfl) (by kernel_rfl) (by kernel_rfl) (fun _ _ _ h => h) (Or.inl ⟨by rfl, ?_⟩) (by assumption) ?_
                rotate_left
                · (intro W hSw; obtain ⟨⟨c0, c1, c2, c3, c4, c5, c6, c7⟩, _⟩ := PG.cells hSw; dsimp only at c0 c1 c2 c3 c4 c5 c6 c7; have hgT := PG.hT hSw; have hgw := PG.hg hSw; go_simp; try with_reducible rfl)
                try simp only [Act.put, List.getElem_toArray, List.getElem_cons_zero, List.setIfInBounds_toArray, List.set_cons_zero, List.set_cons_succ]
                refine wpAnyH_take (i := 1) (oi := _) (v := ?_) rfl (by kernel_rfl) (by kernel_rfl) (by kernel_rfl) (fun _ _ _ h => h) (Or.inl ⟨by rfl, ?_⟩) (by assumption) ?_
                rotate_left
                · (intro W hSw; obtain ⟨⟨c0, c1, c2, c3, c4, c5, c6, c7⟩, _⟩ := PG.cells hSw; dsimp only at c0 c1 c2 c3 c4 c5 c6 c7; have hgT := PG.hT hSw; have hgw := PG.hg hSw; go_simp; try with_reducible rfl)
                try simp only [Act.put, List.getElem_toArray, List.getElem_cons_succ, List.getElem_cons_zero, List.setIfInBounds_toArray, List.set_cons_zero, List.set_cons_succ]
                refine wpAnyH_take (i := 2) (oi := _) (v := ?_) rfl (by kernel_rfl) (by kernel_rfl) (by kernel_rfl) (fun _ _ _ h => h) (Or.inl ⟨by rfl, ?_⟩) (by assumption) ?_
                rotate_left
                · (intro W hSw; obtain ⟨⟨c0, c1, c2, c3, c4, c5, c6, c7⟩, _⟩ := PG.cells hSw; dsimp only at c0 c1 c2 c3 c4 c5 c6 c7; have hgT := PG.hT hSw; have hgw := PG.hg hSw; go_simp; try with_reducible rfl)
                try simp only [Act.put, List.getElem_toArray, List.getElem_cons_succ, List.getElem_cons_zero, List.setIfInBounds_toArray, List.set_cons_zero, List.set_cons_succ]
                refine wpAnyH_take (i := 3) (oi := _) (v := undef) rfl (by kernel_rfl) (by kernel_rfl) (by kernel_rfl) (fun _ _ _ h => h) (Or.inr ⟨by rfl, rfl⟩) (by assumption) ?_
                try simp only [Act.put, List.getElem_toArray, List.getElem_cons_succ, List.getElem_cons_zero, List.setIfInBounds_toArray, List.set_cons_zero, List.set_cons_succ]
                refine wpAnyH_take (i := 4) (oi := _) (v := undef) rfl (by kernel_rfl) (by kernel_rfl) (by kernel_rfl) (fun _ _ _ h => h) (Or.inr ⟨by rfl, rfl⟩) (by assumption) ?_
                try simp only [Act.put, List.getElem_toArray, List.getElem_cons_succ, List.getElem_cons_zero, List.setIfInBounds_toArray, List.set_cons_zero, List.set_cons_succ]
                refine wpAnyH_take (i := 5) (oi := _) (v := ?_) rfl (by kernel_rfl) (by kernel_rfl) (by kernel_rfl) (fun _ _ _ h => h) (Or.inl ⟨by rfl, ?_⟩) (by assumption) ?_
                rotate_left
                · (intro W hSw; obtain ⟨⟨c0, c1, c2, c3, c4, c5, c6, c7⟩, _⟩ := PG.cells hSw; dsimp only at c0 c1 c2 c3 c4 c5 c6 c7; have hgT := PG.hT hSw; have hgw := PG.hg hSw; go_simp; try with_reducible rfl)
                try simp only [Act.put, List.getElem_toArray, List.getElem_cons_succ, List.getElem_cons_zero, List.setIfInBounds_toArray, List.set_cons_zero, List.set_cons_succ]
                obtain ⟨y0, hy0⟩ := PG.r hHeld
                have HRr := Lib.hid (setRow_heap (WG3.drew) w.heap.size _ (⟨3, 0, 0, (n0 : Int), (n1 : Int), 0, (n2 : Int), y3⟩ : St).cells 26 (0, 0) hy0)
                refine wpAnyH_ready (rs := [6]) (by kernel_rfl) (by simp) ?_
                refine AllReadyH.cons rfl (fun K hK => ?_) AllReadyH.nil
                simp only [List.getElem_toArray, List.getElem_cons_succ, List.getElem_cons_zero]
                rw [if_pos (by rfl)]
                refine wp_store_row 26 _ _ rfl w.heap.size (⟨3, 0, 0, (n0 : Int), (n1 : Int), 0, (n2 : Int), y3⟩ : St).cells rfl rfl 26 _ hy0 (hi8 (⟨3, 0, 0, (n0 : Int), (n1 : Int), 0, (n2 : Int), y3⟩ : St)) rfl (cells8_one _) ?_
                refine hK.out _ _ (PG.setR hHeld) (fun hHeld => ?_)
                clear hK K
                try simp only [Act.put, List.setIfInBounds_toArray, List.set_cons_zero, List.set_cons_succ]
                refine wpAnyH_take (i := 7) (oi := _) (v := ?_) rfl (by kernel_rfl) (by kernel_rfl) (by kernel_rfl) (fun _ _ _ h => h) (Or.inl ⟨by rfl, ?_⟩) (by assumption) ?_
                rotate_left
                · (intro W hSw; skip; go_simp; try with_reducible rfl)
                try simp only [Act.put, List.getElem_toArray, List.getElem_cons_succ, List.getElem_cons_zero, List.setIfInBounds_toArray, List.set_cons_zero, List.set_cons_succ]
                refine wpAnyH_done (by kernel_rfl) ?_ _
                have hB9 := PG.b hHeld
                obtain ⟨W9, hW9⟩ : ∃ W9, W9 = (WG3.drew).setRow w.heap.size (⟨3, 0, 0, (n0 : Int), (n1 : Int), 0, (n2 : Int), y3⟩ : St).cells := ⟨_, rfl⟩
                have HR' := HRr.out
                rw [← hW9] at HR' hB9 ⊢
                clear hW9 hy0 hHeld HRr
                go_wp2_with fail
                exact bodyPost_ret (res8p _ _ w.heap.size (⟨3, 0, 0, (n0 : Int), (n1 : Int), 0, (n2 : Int), y3⟩ : St) false rfl rfl HR') rfl ⟨.inr ⟨HE.out, (⟨3, 0, 0, (n0 : Int), (n1 : Int), 0, (n2 : Int), y3⟩ : St), rfl⟩, hB9⟩
              | true =>
                obtain ⟨q0, hq0⟩ := Option.isSome_iff_exists.1 HB0.out
                obtain ⟨q1, hq1⟩ := Option.isSome_iff_exists.1 HB1.out
                obtain ⟨q2, hq2⟩ := Option.isSome_iff_exists.1 HB2.out
                obtain ⟨q3, hq3⟩ := Option.isSome_iff_exists.1 HB3.out
                have e0 : q0 = n0 := by have := HN0.out; rw [hq0] at this; exact this
                have e1 : q1 = n1 := by have := HN1.out; rw [hq1] at this; exact this
                have e2 : q2 = n2 := by have := HN2.out; rw [hq2] at this; exact this
                have e3 : (⟨q3.toArray⟩ : ByteArray) = y3 := by have := HY3.out; rw [hq3] at this; exact this
                subst e0 e1 e2
                have l0 := (sm_some hq0).1
                have l1 := (sm_some hq1).1
                have hst : strict (sp s.data.toList) = if q3.length ≤ 64 then some (⟨3, 0, 0, q0, q1, 0, q2, ⟨q3.toArray⟩⟩ : St) else none := by
                  rw [strict_five HK.out (show sp s.data.toList = _ by rw [← HXs.out]; exact five5 HM.out), hq0]; show Option.bind _ _ = _; rw [hq1]; show Option.bind _ _ = _; rw [hq2]; show Option.bind _ _ = _; rw [hq3]; rfl
                have hsz : y3.size = q3.length := by rw [← e3]; rfl
                have HST := Lib.hid hst
                have HE3 := Lib.hid e3
                have HL := Lib.hid (And.intro l0 l1)
                clear hq0 hq1 hq2 hq3 e3 l0 l1 hst
                by_cases h64 : y3.size ≤ 64
                · have HE := Lib.hid (show strict (sp s.data.toList) = some (⟨3, 0, 0, (q0 : Int), (q1 : Int), 0, (q2 : Int), y3⟩ : St) by rw [HST.out, if_pos (by rw [← hsz]; exact h64), HE3.out])
                  have H64 := Lib.hid h64
                  clear h64 hsz
                  go_upto_region 28 with fail
                  clear c0 c1 c2 c3 c4 c5 c6 c7 z0 z1 z2 z3 z4 z6 z7
                  refine wp_region_held_drew (S := fun V => PG w V T g xs (⟨3, 0, 0, (q0 : Int), (q1 : Int), 0, (q2 : Int), y3⟩ : St)) (by kernel_rfl) (HG3.out.below (Below.refl _ _).drew) (fun hHeld => ?_)
                  refine wpAnyH_take (i := 0) (oi := _) (v := ?_) rfl (by kernel_rfl) (by kernel_rfl) (by kernel_rfl) (fun _ _ _ h => h) (Or.inl ⟨by rfl, ?_⟩) (by assumption) ?_
                  rotate_left
                  · (intro W hSw; obtain ⟨⟨c0, c1, c2, c3, c4, c5, c6, c7⟩, _⟩ := PG.cells hSw; dsimp only at c0 c1 c2 c3 c4 c5 c6 c7; have hgT := PG.hT hSw; have hgw := PG.hg hSw; go_simp; try with_reducible rfl)
                  try simp only [Act.put, List.getElem_toArray, List.getElem_cons_zero, List.setIfInBounds_toArray, List.set_cons_zero, List.set_cons_succ]
                  refine wpAnyH_take (i := 1) (oi := _) (v := ?_) rfl (by kernel_rfl) (by kernel_rfl) (by kernel_rfl) (fun _ _ _ h => h) (Or.inl ⟨by rfl, ?_⟩) (by assumption) ?_
                  rotate_left
                  · (intro W hSw; obtain ⟨⟨c0, c1, c2, c3, c4, c5, c6, c7⟩, _⟩ := PG.cells hSw; dsimp only at c0 c1 c2 c3 c4 c5 c6 c7; have hgT := PG.hT hSw; have hgw := PG.hg hSw; go_simp; try with_reducible rfl)
                  try simp only [Act.put, List.getElem_toArray, List.getElem_cons_succ, List.getElem_cons_zero, List.setIfInBounds_toArray, List.set_cons_zero, List.set_cons_succ]
                  refine wpAnyH_take (i := 2) (oi := _) (v := ?_) rfl (by kernel_rfl) (by kernel_rfl) (by kernel_rfl) (fun _ _ _ h => h) (Or.inl ⟨by rfl, ?_⟩) (by assumption) ?_
                  rotate_left
                  · (intro W hSw; obtain ⟨⟨c0, c1, c2, c3, c4, c5, c6, c7⟩, _⟩ := PG.cells hSw; dsimp only at c0 c1 c2 c3 c4 c5 c6 c7; have hgT := PG.hT hSw; have hgw := PG.hg hSw; go_simp; try with_reducible rfl)
                  try simp only [Act.put, List.getElem_toArray, List.getElem_cons_succ, List.getElem_cons_zero, List.setIfInBounds_toArray, List.set_cons_zero, List.set_cons_succ]
                  refine wpAnyH_take (i := 3) (oi := _) (v := ?_) rfl (by kernel_rfl) (by kernel_rfl) (by kernel_rfl) (fun _ _ _ h => h) (Or.inl ⟨by rfl, ?_⟩) (by assumption) ?_
                  rotate_left
                  · (intro W hSw; obtain ⟨⟨c0, c1, c2, c3, c4, c5, c6, c7⟩, _⟩ := PG.cells hSw; dsimp only at c0 c1 c2 c3 c4 c5 c6 c7; have hgT := PG.hT hSw; have hgw := PG.hg hSw; go_simp; try with_reducible rfl)
                  try simp only [Act.put, List.getElem_toArray, List.getElem_cons_succ, List.getElem_cons_zero, List.setIfInBounds_toArray, List.set_cons_zero, List.set_cons_succ]
                  refine wpAnyH_ready (rs := [4]) (by kernel_rfl) (by simp) ?_
                  refine AllReadyH.cons rfl (fun K hK => ?_) AllReadyH.nil
                  simp only [List.getElem_toArray, List.getElem_cons_succ, List.getElem_cons_zero]
                  rw [if_pos (by rfl)]
                  go_simp
                  refine (St15.right_3 (q0 : Int) (q1 : Int) (q2 : Int) y3 (by omega) (by have := HL.out.1; omega) (by omega) (by have := HL.out.2; omega) H64.out _).mono ?_
                  rintro _ wr1 ⟨rfl, br1⟩
                  go_wp2_with fail
                  refine hK.out _ _ (PG.below hHeld br1) (fun hHeld => ?_)
                  clear hK K
                  try simp only [Act.put, List.getElem_toArray, List.getElem_cons_succ, List.getElem_cons_zero, List.setIfInBounds_toArray, List.set_cons_zero, List.set_cons_succ]
                  refine wpAnyH_take (i := 5) (oi := _) (v := ?_) rfl (by kernel_rfl) (by kernel_rfl) (by kernel_rfl) (fun _ _ _ h => h) (Or.inl ⟨by rfl, ?_⟩) (by assumption) ?_
                  rotate_left
                  · (intro W hSw; obtain ⟨⟨c0, c1, c2, c3, c4, c5, c6, c7⟩, _⟩ := PG.cells hSw; dsimp only at c0 c1 c2 c3 c4 c5 c6 c7; have hgT := PG.hT hSw; have hgw := PG.hg hSw; go_simp; try with_reducible rfl)
                  try simp only [Act.put, List.getElem_toArray, List.getElem_cons_succ, List.getElem_cons_zero, List.setIfInBounds_toArray, List.set_cons_zero, List.set_cons_succ]
                  obtain ⟨y0, hy0⟩ := PG.r hHeld
                  have HRr := Lib.hid (setRow_heap (wr1) w.heap.size _ (⟨3, 0, 0, (q0 : Int), (q1 : Int), 0, (q2 : Int), y3⟩ : St).cells 26 (0, 0) hy0)
                  refine wpAnyH_ready (rs := [6]) (by kernel_rfl) (by simp) ?_
                  refine AllReadyH.cons rfl (fun K hK => ?_) AllReadyH.nil
                  simp only [List.getElem_toArray, List.getElem_cons_succ, List.getElem_cons_zero]
                  rw [if_pos (by rfl)]
                  refine wp_store_row 26 _ _ rfl w.heap.size (⟨3, 0, 0, (q0 : Int), (q1 : Int), 0, (q2 : Int), y3⟩ : St).cells rfl rfl 26 _ hy0 (hi8 (⟨3, 0, 0, (q0 : Int), (q1 : Int), 0, (q2 : Int), y3⟩ : St)) rfl (cells8_one _) ?_
                  refine hK.out _ _ (PG.setR hHeld) (fun hHeld => ?_)
                  clear hK K
                  try simp only [Act.put, List.setIfInBounds_toArray, List.set_cons_zero, List.set_cons_succ]
                  refine wpAnyH_take (i := 7) (oi := _) (v := ?_) rfl (by kernel_rfl) (by kernel_rfl) (by kernel_rfl) (fun _ _ _ h => h) (Or.inl ⟨by rfl, ?_⟩) (by assumption) ?_
                  rotate_left
                  · (intro W hSw; skip; go_simp; try with_reducible rfl)
                  try simp only [Act.put, List.getElem_toArray, List.getElem_cons_succ, List.getElem_cons_zero, List.setIfInBounds_toArray, List.set_cons_zero, List.set_cons_succ]
                  refine wpAnyH_done (by kernel_rfl) ?_ _
                  have hB9 := PG.b hHeld
                  obtain ⟨W9, hW9⟩ : ∃ W9, W9 = (wr1).setRow w.heap.size (⟨3, 0, 0, (q0 : Int), (q1 : Int), 0, (q2 : Int), y3⟩ : St).cells := ⟨_, rfl⟩
                  have HR' := HRr.out
                  rw [← hW9] at HR' hB9 ⊢
                  clear hW9 hy0 hHeld HRr
                  go_wp2_with fail
                  exact bodyPost_ret (res8p _ _ w.heap.size (⟨3, 0, 0, (q0 : Int), (q1 : Int), 0, (q2 : Int), y3⟩ : St) true rfl rfl HR') rfl ⟨.inl ⟨(⟨3, 0, 0, (q0 : Int), (q1 : Int), 0, (q2 : Int), y3⟩ : St), HE.out, rfl⟩, hB9⟩
                · have HE := Lib.hid (show strict (sp s.data.toList) = none by rw [HST.out, if_neg (by rw [← hsz]; exact h64)])
                  have H64 := Lib.hid h64
                  clear h64 hsz
                  go_upto_region 28 with fail
                  clear c0 c1 c2 c3 c4 c5 c6 c7 z0 z1 z2 z3 z4 z6 z7
                  refine wp_region_held_drew (S := fun V => PG w V T g xs (⟨3, 0, 0, (q0 : Int), (q1 : Int), 0, (q2 : Int), y3⟩ : St)) (by kernel_rfl) (HG3.out.below (Below.refl _ _).drew) (fun hHeld => ?_)
                  refine wpAnyH_take (i := 0) (oi := _) (v := ?_) rfl (by kernel_rfl) (by kernel_rfl) (by kernel_rfl) (fun _ _ _ h => h) (Or.inl ⟨by rfl, ?_⟩) (by assumption) ?_
                  rotate_left
                  · (intro W hSw; obtain ⟨⟨c0, c1, c2, c3, c4, c5, c6, c7⟩, _⟩ := PG.cells hSw; dsimp only at c0 c1 c2 c3 c4 c5 c6 c7; have hgT := PG.hT hSw; have hgw := PG.hg hSw; go_simp; try with_reducible rfl)
                  try simp only [Act.put, List.getElem_toArray, List.getElem_cons_zero, List.setIfInBounds_toArray, List.set_cons_zero, List.set_cons_succ]
                  refine wpAnyH_take (i := 1) (oi := _) (v := ?_) rfl (by kernel_rfl) (by kernel_rfl) (by kernel_rfl) (fun _ _ _ h => h) (Or.inl ⟨by rfl, ?_⟩) (by assumption) ?_
                  rotate_left
                  · (intro W hSw; obtain ⟨⟨c0, c1, c2, c3, c4, c5, c6, c7⟩, _⟩ := PG.cells hSw; dsimp only at c0 c1 c2 c3 c4 c5 c6 c7; have hgT := PG.hT hSw; have hgw := PG.hg hSw; go_simp; try with_reducible rfl)
                  try simp only [Act.put, List.getElem_toArray, List.getElem_cons_succ, List.getElem_cons_zero, List.setIfInBounds_toArray, List.set_cons_zero, List.set_cons_succ]
                  refine wpAnyH_take (i := 2) (oi := _) (v := ?_) rfl (by kernel_rfl) (by kernel_rfl) (by kernel_rfl) (fun _ _ _ h => h) (Or.inl ⟨by rfl, ?_⟩) (by assumption) ?_
                  rotate_left
                  · (intro W hSw; obtain ⟨⟨c0, c1, c2, c3, c4, c5, c6, c7⟩, _⟩ := PG.cells hSw; dsimp only at c0 c1 c2 c3 c4 c5 c6 c7; have hgT := PG.hT hSw; have hgw := PG.hg hSw; go_simp; try with_reducible rfl)
                  try simp only [Act.put, List.getElem_toArray, List.getElem_cons_succ, List.getElem_cons_zero, List.setIfInBounds_toArray, List.set_cons_zero, List.set_cons_succ]
                  refine wpAnyH_take (i := 3) (oi := _) (v := ?_) rfl (by kernel_rfl) (by kernel_rfl) (by kernel_rfl) (fun _ _ _ h => h) (Or.inl ⟨by rfl, ?_⟩) (by assumption) ?_
                  rotate_left
                  · (intro W hSw; obtain ⟨⟨c0, c1, c2, c3, c4, c5, c6, c7⟩, _⟩ := PG.cells hSw; dsimp only at c0 c1 c2 c3 c4 c5 c6 c7; have hgT := PG.hT hSw; have hgw := PG.hg hSw; go_simp; try with_reducible rfl)
                  try simp only [Act.put, List.getElem_toArray, List.getElem_cons_succ, List.getElem_cons_zero, List.setIfInBounds_toArray, List.set_cons_zero, List.set_cons_succ]
                  refine wpAnyH_ready (rs := [4]) (by kernel_rfl) (by simp) ?_
                  refine AllReadyH.cons rfl (fun K hK => ?_) AllReadyH.nil
                  simp only [List.getElem_toArray, List.getElem_cons_succ, List.getElem_cons_zero]
                  rw [if_pos (by rfl)]
                  go_simp
                  refine (St15.right_3b (q0 : Int) (q1 : Int) (q2 : Int) y3 (by omega) (by have := HL.out.1; omega) (by omega) (by have := HL.out.2; omega) H64.out _).mono ?_
                  rintro _ wr1 ⟨rfl, br1⟩
                  go_wp2_with fail
                  refine hK.out _ _ (PG.below hHeld br1) (fun hHeld => ?_)
                  clear hK K
                  try simp only [Act.put, List.getElem_toArray, List.getElem_cons_succ, List.getElem_cons_zero, List.setIfInBounds_toArray, List.set_cons_zero, List.set_cons_succ]
                  refine wpAnyH_take (i := 5) (oi := _) (v := ?_) rfl (by kernel_rfl) (by kernel_rfl) (by kernel_rfl) (fun _ _ _ h => h) (Or.inl ⟨by rfl, ?_⟩) (by assumption) ?_
                  rotate_left
                  · (intro W hSw; obtain ⟨⟨c0, c1, c2, c3, c4, c5, c6, c7⟩, _⟩ := PG.cells hSw; dsimp only at c0 c1 c2 c3 c4 c5 c6 c7; have hgT := PG.hT hSw; have hgw := PG.hg hSw; go_simp; try with_reducible rfl)
                  try simp only [Act.put, List.getElem_toArray, List.getElem_cons_succ, List.getElem_cons_zero, List.setIfInBounds_toArray, List.set_cons_zero, List.set_cons_succ]
                  obtain ⟨y0, hy0⟩ := PG.r hHeld
                  have HRr := Lib.hid (setRow_heap (wr1) w.heap.size _ (⟨3, 0, 0, (q0 : Int), (q1 : Int), 0, (q2 : Int), y3⟩ : St).cells 26 (0, 0) hy0)
                  refine wpAnyH_ready (rs := [6]) (by kernel_rfl) (by simp) ?_
                  refine AllReadyH.cons rfl (fun K hK => ?_) AllReadyH.nil
                  simp only [List.getElem_toArray, List.getElem_cons_succ, List.getElem_cons_zero]
                  rw [if_pos (by rfl)]
                  refine wp_store_row 26 _ _ rfl w.heap.size (⟨3, 0, 0, (q0 : Int), (q1 : Int), 0, (q2 : Int), y3⟩ : St).cells rfl rfl 26 _ hy0 (hi8 (⟨3, 0, 0, (q0 : Int), (q1 : Int), 0, (q2 : Int), y3⟩ : St)) rfl (cells8_one _) ?_
                  refine hK.out _ _ (PG.setR hHeld) (fun hHeld => ?_)
                  clear hK K
                  try simp only [Act.put, List.setIfInBounds_toArray, List.set_cons_zero, List.set_cons_succ]
                  refine wpAnyH_take (i := 7) (oi := _) (v := ?_) rfl (by kernel_rfl) (by kernel_rfl) (by kernel_rfl) (fun _ _ _ h => h) (Or.inl ⟨by rfl, ?_⟩) (by assumption) ?_
                  rotate_left
                  · (intro W hSw; skip; go_simp; try with_reducible rfl)
                  try simp only [Act.put, List.getElem_toArray, List.getElem_cons_succ, List.getElem_cons_zero, List.setIfInBounds_toArray, List.set_cons_zero, List.set_cons_succ]
                  refine wpAnyH_done (by kernel_rfl) ?_ _
                  have hB9 := PG.b hHeld
                  obtain ⟨W9, hW9⟩ : ∃ W9, W9 = (wr1).setRow w.heap.size (⟨3, 0, 0, (q0 : Int), (q1 : Int), 0, (q2 : Int), y3⟩ : St).cells := ⟨_, rfl⟩
                  have HR' := HRr.out
                  rw [← hW9] at HR' hB9 ⊢
                  clear hW9 hy0 hHeld HRr
                  go_wp2_with fail
                  exact bodyPost_ret (res8p _ _ w.heap.size (⟨3, 0, 0, (q0 : Int), (q1 : Int), 0, (q2 : Int), y3⟩ : St) false rfl rfl HR') rfl ⟨.inr ⟨HE.out, (⟨3, 0, 0, (q0 : Int), (q1 : Int), 0, (q2 : Int), y3⟩ : St), rfl⟩, hB9⟩
      · have hm1 : ((xs.length : Int) == 5) = false := by rw [beq_eq_false_iff_ne]; omega
        have hm2 : ((xs.length : Int) != 5) = true := by rw [bne_iff_ne]; omega
        have HE := Lib.hid (strict_many HK.out (by decide) (show (sp s.data.toList).length ≠ manyK 3 by rw [← HXs.out, List.length_map]; exact hm))
        clear hm
        go_upto_region 13 with fail
        refine wp_region_lit ?_
        refine wpList_load_row rfl 26 _ rfl T rfl 26 (⟨3, 0, 0, 0, 0, 0, 0, ⟨#[]⟩⟩ : St).cells (0, 0) _ HP3.out.t Tryz.underlying26 rfl (hi8 (⟨3, 0, 0, 0, 0, 0, 0, ⟨#[]⟩⟩ : St)) ?_
        obtain ⟨y0, hy0⟩ := HP3.out.r
        refine wpList_store_rowTo rfl 26 _ _ rfl rfl w.heap.size (⟨3, 0, 0, 0, 0, 0, 0, ⟨#[]⟩⟩ : St).cells rfl rfl 26 _ hy0 (hi8 (⟨3, 0, 0, 0, 0, 0, 0, ⟨#[]⟩⟩ : St)) rfl (cells8_one _) ?_
        have HR' := setRow_heap w3 w.heap.size _ (⟨3, 0, 0, 0, 0, 0, 0, ⟨#[]⟩⟩ : St).cells 26 (0, 0) hy0
        have hB9 := (HP3.out.setR (y := (⟨3, 0, 0, 0, 0, 0, 0, ⟨#[]⟩⟩ : St))).b
        obtain ⟨W9, hW9⟩ : ∃ W9, W9 = w3.setRow w.heap.size (⟨3, 0, 0, 0, 0, 0, 0, ⟨#[]⟩⟩ : St).cells := ⟨_, rfl⟩
        rw [← hW9] at HR' hB9 ⊢
        clear hW9 hy0
        go_wp2_with fail
        exact bodyPost_ret (res8p _ _ w.heap.size (⟨3, 0, 0, 0, 0, 0, 0, ⟨#[]⟩⟩ : St) false rfl rfl HR') rfl ⟨.inr ⟨HE.out, (⟨3, 0, 0, 0, 0, 0, 0, ⟨#[]⟩⟩ : St), rfl⟩, hB9⟩

set_option maxHeartbeats 4000000 in
set_option maxRecDepth 100000 in
theorem rparse_4 (s : ByteArray) (hs : s.size ≤ 2000) (hk : kL ((sp s.data.toList).getD 0 []) = 4) (w : World) : Calls Tryz.prog 66 #[.string s] w fun e w' => pP s.data.toList e ∧ Below w.heap.size w w' := by
  have HS := Lib.hid hs
  have HK := Lib.hid hk
  clear hs hk
  go_enter Tryz.func66, Tryz.ntmps66
  go_wp2_with fail
  refine (words_any s (by have := HS.out; omega) _).mono ?_
  rintro _ w1 ⟨⟨v, xs, rfl, hown, hxs⟩, hb1⟩
  have hxn : xs ≠ [] := fun e => sp_ne s.data.toList (by rw [← hxs, e]; rfl)
  have HXn := Lib.hid hxn
  have HXs := Lib.hid hxs
  simp only [World.size_alloc] at hown
  obtain ⟨g, cap, rfl, hpg⟩ := PG.start (w := w) hb1 hown hxn
  have HP := Lib.hid hpg
  have HN := Lib.hid (List.length_pos_iff.2 hxn)
  have H0 : Hid (kL (gx xs 0).data.toList = 4) := Lib.hid (by
    have e : (gx xs 0).data.toList = (sp s.data.toList).getD 0 [] := by
      unfold gx
      rw [← hxs, List.getD_eq_getElem?_getD, List.getD_eq_getElem?_getD, List.getElem?_map]
      cases hx : xs[0]? with
      | none => exact absurd (List.getElem?_eq_none_iff.1 hx) (by have := HN.out; omega)
      | some a => rfl
    rw [e]; exact HK.out)
  clear hown hb1 hpg hxn hxs
  obtain ⟨T, hT⟩ : ∃ T, w1.heap.size = T := ⟨_, rfl⟩
  go_upto_region 3 with fail
  rw [hT] at HP
  obtain ⟨W2, hW2⟩ : ∃ W2, W2 = w1.alloc (.cells St0.cells 26) := ⟨_, rfl⟩
  have HP2 : Hid (PG w W2 T g xs St0) := by rw [hW2]; exact HP
  rw [show w1.alloc (.cells #[.int .i64 0, .int .i64 0, .int .i64 0, .int .i64 0, .int .i64 0, .int .u64 0, .int .u64 0, .string ⟨#[]⟩] 26) = W2 from hW2.symm]
  have hn0 : (0 : Int) < (xs.length : Int) := by have := HN.out; omega
  clear hW2 HP hT
  go_wp2_with fail
  go_loopw [6] (fun i wr => ∃ kq : Nat, i = .int .i64 (kq : Int) ∧ 1 ≤ kq ∧ kq ≤ 9 ∧ Hid (PG w wr T g xs (stK (kx 4 kq)))) (fun i _ => 9 - (RowKit.intOf i).toNat)
  case atStart => exact ⟨1, rfl, by omega, by omega, HP2⟩
  case round =>
    obtain ⟨kq, rfl, hk1, hk9, HP⟩ := hrel
    clear HP2
    by_cases h8 : kq ≤ 8
    · have hk8 : (kq : Int) ≤ 8 := by omega
      have hk0 : (0 : Int) ≤ (kq : Int) := by omega
      go_upto_region 6 with fail
      refine wp_region_held_drew (S := fun V => PG w V T g xs (stK (kx 4 kq))) (by kernel_rfl) (HP.out.below (Below.refl _ _).drew) (fun hHeld => ?_)
      refine wpAnyH_take (i := 0) (oi := _) (v := ?_) rfl (by kernel_rfl) (by kernel_rfl) (by kernel_rfl) (fun _ _ _ h => h) (Or.inl ⟨by rfl, ?_⟩) (by assumption) ?_
      rotate_left
      · (intro W hSw; obtain ⟨⟨c0, c1, c2, c3, c4, c5, c6, c7⟩, _⟩ := PG.cells hSw; have w0 := PG.row hSw 0 HN.out; have hn0n := HN.out; go_simp; try with_reducible rfl)
      try simp only [Act.put, List.getElem_toArray, List.getElem_cons_zero, List.setIfInBounds_toArray, List.set_cons_zero, List.set_cons_succ]
      refine wpAnyH_take (i := 2) (oi := _) (v := ?_) rfl (by kernel_rfl) (by kernel_rfl) (by kernel_rfl) (fun _ _ _ h => h) (Or.inl ⟨by rfl, ?_⟩) (by assumption) ?_
      rotate_left
      · (intro W hSw; obtain ⟨⟨c0, c1, c2, c3, c4, c5, c6, c7⟩, _⟩ := PG.cells hSw; have w0 := PG.row hSw 0 HN.out; have hn0n := HN.out; go_simp; try with_reducible rfl)
      try simp only [Act.put, List.getElem_toArray, List.getElem_cons_succ, List.getElem_cons_zero, List.setIfInBounds_toArray, List.set_cons_zero, List.set_cons_succ]
      refine wpAnyH_take (i := 3) (oi := _) (v := ?_) rfl (by kernel_rfl) (by kernel_rfl) (by kernel_rfl) (fun _ _ _ h => h) (Or.inl ⟨by rfl, ?_⟩) (by assumption) ?_
      rotate_left
      · (intro W hSw; obtain ⟨⟨c0, c1, c2, c3, c4, c5, c6, c7⟩, _⟩ := PG.cells hSw; have w0 := PG.row hSw 0 HN.out; have hn0n := HN.out; go_simp; try with_reducible rfl)
      try simp only [Act.put, List.getElem_toArray, List.getElem_cons_succ, List.getElem_cons_zero, List.setIfInBounds_toArray, List.set_cons_zero, List.set_cons_succ]
      refine wpAnyH_take (i := 4) (oi := _) (v := ?_) rfl (by kernel_rfl) (by kernel_rfl) (by kernel_rfl) (fun _ _ _ h => h) (Or.inl ⟨by rfl, ?_⟩) (by assumption) ?_
      rotate_left
      · (intro W hSw; obtain ⟨⟨c0, c1, c2, c3, c4, c5, c6, c7⟩, _⟩ := PG.cells hSw; have w0 := PG.row hSw 0 HN.out; have hn0n := HN.out; go_simp; try with_reducible rfl)
      try simp only [Act.put, List.getElem_toArray, List.getElem_cons_succ, List.getElem_cons_zero, List.setIfInBounds_toArray, List.set_cons_zero, List.set_cons_succ]
      refine wpAnyH_ready (rs := [1]) (by kernel_rfl) (by simp) ?_
      refine AllReadyH.cons rfl (fun K hK => ?_) AllReadyH.nil
      simp only [List.getElem_toArray, List.getElem_cons_succ, List.getElem_cons_zero]
      rw [if_pos (by rfl)]
      go_simp
      refine (rword_any kq hk1 h8 _).mono ?_
      rintro _ wb ⟨rfl, hb⟩
      go_wp2_with fail
      refine hK.out _ _ (PG.below hHeld hb) (fun hHeld => ?_)
      clear hK K
      try simp only [Act.put, List.getElem_toArray, List.getElem_cons_succ, List.getElem_cons_zero, List.setIfInBounds_toArray, List.set_cons_zero, List.set_cons_succ]
      refine wpAnyH_take (i := 5) (oi := _) (v := ?_) rfl (by kernel_rfl) (by kernel_rfl) (by kernel_rfl) (fun _ _ _ h => h) (Or.inl ⟨by rfl, ?_⟩) (by assumption) ?_
      rotate_left
      · (intro W hSw; obtain ⟨⟨c0, c1, c2, c3, c4, c5, c6, c7⟩, _⟩ := PG.cells hSw; have w0 := PG.row hSw 0 HN.out; have hn0n := HN.out; go_simp; try with_reducible rfl)
      try simp only [Act.put, List.getElem_toArray, List.getElem_cons_succ, List.getElem_cons_zero, List.setIfInBounds_toArray, List.set_cons_zero, List.set_cons_succ]
      refine wpAnyH_done (by kernel_rfl) ?_ _
      have HPb := Lib.hid hHeld
      clear hHeld HP
      by_cases he : kq = 4
      · subst he
        have e1 : ((wdB 4).toList == (gx xs 0).toList) = true := by
          rw [beq_iff_eq, ByteArray.toList_eq, ByteArray.toList_eq, wd_kL H0.out (by decide)]; rfl
        rw [e1]
        clear e1
        obtain ⟨⟨c0, c1, c2, c3, c4, c5, c6, c7⟩, z0, z1, z2, z3, z4, z6, z7⟩ := HPb.out.cells
        have hgT := HPb.out.hT
        clear hk1 hk9 h8 hk8 hk0
        go_wp2
        go_roundw
        case rel => exact ⟨4 + 1, by go_num, by omega, by omega, Lib.hid (HPb.out.set 0 _ rfl)⟩
        case measure => simp [RowKit.intOf]
      have e1 : ((wdB kq).toList == (gx xs 0).toList) = false := tl_ne fun e => he (by
        have := H0.out
        rw [← e] at this
        exact (kL_first hk1 h8 (by simp [wdB])).symm.trans this)
      rw [← kx_ne he] at HPb
      have HE9 := Lib.hid (And.intro hk1 h8)
      clear he hk1 hk9 h8
      rw [e1]
      clear e1
      go_wp2
      go_roundw
      case rel => exact ⟨kq + 1, by go_num, by omega, by have := HE9.out; omega, HPb⟩
      case measure => have := HE9.out; simp [RowKit.intOf]; omega
    · obtain rfl : kq = 9 := by omega
      rw [show stK (kx 4 9) = (⟨4, 0, 0, 0, 0, 0, 0, ⟨#[]⟩⟩ : St) from rfl] at HP
      clear h8 hk1 hk9
      obtain ⟨⟨c0, c1, c2, c3, c4, c5, c6, c7⟩, z0, z1, z2, z3, z4, z6, z7⟩ := HP.out.cells
      dsimp only at c0 c1 c2 c3 c4 c5 c6 c7
      go_wp2_with fail
      refine (St15.has_4 _).mono ?_
      rintro _ w3 ⟨rfl, hb3⟩
      have HP3 := Lib.hid (HP.out.below hb3)
      clear hb3 HP
      clear c0 c1 c2 c3 c4 c5 c6 c7 z0 z1 z2 z3 z4 z6 z7
      obtain ⟨⟨c0, c1, c2, c3, c4, c5, c6, c7⟩, z0, z1, z2, z3, z4, z6, z7⟩ := HP3.out.cells
      dsimp only at c0 c1 c2 c3 c4 c5 c6 c7
      go_wp2_with fail
      refine (St15.in_s_112 _).mono ?_
      rintro _ wq ⟨rfl, hq⟩
      obtain rfl := hq.symm
      clear hq
      by_cases hm : xs.length = 2
      · have hm1 : ((xs.length : Int) == 2) = true := by rw [hm]; rfl
        have hm2 : ((xs.length : Int) != 2) = false := by rw [hm]; rfl
        have HM := Lib.hid hm
        clear hm
        go_wp2_with fail
        refine (St15.in_s_115 _).mono ?_
        rintro _ wq ⟨rfl, hq⟩
        obtain rfl := hq.symm
        clear hq
        cases hss : sm (gx xs 1).data.toList 1 with
        | none =>
          have w1 := HP3.out.row 1 (by have := HM.out; omega)
          have hl0 : 1 < xs.length := by have := HM.out; omega
          have hl1 : (1 : Int) < (xs.length : Int) := by omega
          have hgT := HP3.out.hT
          go_wp2_with fail
          refine (small_none (m := 1) hss (by have := xs_sz HXs.out 1; have := HS.out; omega) (by decide) _).mono ?_
          rintro _ wq ⟨rfl, hq⟩
          obtain rfl := hq.symm
          clear hq
          go_upto_region 18 with fail
          have HQs := Lib.hid (HP3.out.set (x' := (⟨4, 0, 0, 0, 0, 0, 0, ⟨#[]⟩⟩ : St)) 1 (.int .i64 0) rfl)
          generalize w3.setCell ⟨T, 1, none⟩ (.int .i64 0) = Wsn at HQs ⊢
          clear c0 c1 c2 c3 c4 c5 c6 c7 z0 z1 z2 z3 z4 z6 z7 w1 hl0 hl1 hgT
          obtain ⟨⟨c0, c1, c2, c3, c4, c5, c6, c7⟩, z0, z1, z2, z3, z4, z6, z7⟩ := HQs.out.cells
          dsimp only at c0 c1 c2 c3 c4 c5 c6 c7
          go_wp2_with fail
          refine (St15.in_s_112 _).mono ?_
          rintro _ wq ⟨rfl, hq⟩
          obtain rfl := hq.symm
          clear hq
          have HE := Lib.hid (show strict (sp s.data.toList) = none by rw [strict_two (k := 4) HK.out (by decide) (show sp s.data.toList = _ by rw [← HXs.out]; exact two2 HM.out), show mxN 4 = 1 from rfl, hss]; rfl)
          go_upto_region 28 with fail
          clear c0 c1 c2 c3 c4 c5 c6 c7 z0 z1 z2 z3 z4 z6 z7
          refine wp_region_held_drew (S := fun V => PG w V T g xs (⟨4, 0, 0, 0, 0, 0, 0, ⟨#[]⟩⟩ : St)) (by kernel_rfl) (HQs.out.below (Below.refl _ _).drew) (fun hHeld => ?_)
          refine wpAnyH_take (i := 0) (oi := _) (v := ?_) rfl (by kernel_rfl) (by kernel_rfl) (by kernel_rfl) (fun _ _ _ h => h) (Or.inl ⟨by rfl, ?_⟩) (by assumption) ?_
          rotate_left
          · (intro W hSw; obtain ⟨⟨c0, c1, c2, c3, c4, c5, c6, c7⟩, _⟩ := PG.cells hSw; dsimp only at c0 c1 c2 c3 c4 c5 c6 c7; have hgT := PG.hT hSw; have hgw := PG.hg hSw; go_simp; try with_reducible rfl)
          try simp only [Act.put, List.getElem_toArray, List.getElem_cons_zero, List.setIfInBounds_toArray, List.set_cons_zero, List.set_cons_succ]
          refine wpAnyH_take (i := 1) (oi := _) (v := ?_) rfl (by kernel_rfl) (by kernel_rfl) (by kernel_rfl) (fun _ _ _ h => h) (Or.inl ⟨by rfl, ?_⟩) (by assumption) ?_
          rotate_left
          · (intro W hSw; obtain ⟨⟨c0, c1, c2, c3, c4, c5, c6, c7⟩, _⟩ := PG.cells hSw; dsimp only at c0 c1 c2 c3 c4 c5 c6 c7; have hgT := PG.hT hSw; have hgw := PG.hg hSw; go_simp; try with_reducible rfl)
          try simp only [Act.put, List.getElem_toArray, List.getElem_cons_succ, List.getElem_cons_zero, List.setIfInBounds_toArray, List.set_cons_zero, List.set_cons_succ]
          refine wpAnyH_take (i := 2) (oi := _) (v := ?_) rfl (by kernel_rfl) (by kernel_rfl) (by kernel_rfl) (fun _ _ _ h => h) (Or.inl ⟨by rfl, ?_⟩) (by assumption) ?_
          rotate_left
          · (intro W hSw; obtain ⟨⟨c0, c1, c2, c3, c4, c5, c6, c7⟩, _⟩ := PG.cells hSw; dsimp only at c0 c1 c2 c3 c4 c5 c6 c7; have hgT := PG.hT hSw; have hgw := PG.hg hSw; go_simp; try with_reducible rfl)
          try simp only [Act.put, List.getElem_toArray, List.getElem_cons_succ, List.getElem_cons_zero, List.setIfInBounds_toArray, List.set_cons_zero, List.set_cons_succ]
          refine wpAnyH_take (i := 3) (oi := _) (v := undef) rfl (by kernel_rfl) (by kernel_rfl) (by kernel_rfl) (fun _ _ _ h => h) (Or.inr ⟨by rfl, rfl⟩) (by assumption) ?_
          try simp only [Act.put, List.getElem_toArray, List.getElem_cons_succ, List.getElem_cons_zero, List.setIfInBounds_toArray, List.set_cons_zero, List.set_cons_succ]
          refine wpAnyH_take (i := 4) (oi := _) (v := undef) rfl (by kernel_rfl) (by kernel_rfl) (by kernel_rfl) (fun _ _ _ h => h) (Or.inr ⟨by rfl, rfl⟩) (by assumption) ?_
          try simp only [Act.put, List.getElem_toArray, List.getElem_cons_succ, List.getElem_cons_zero, List.setIfInBounds_toArray, List.set_cons_zero, List.set_cons_succ]
          refine wpAnyH_take (i := 5) (oi := _) (v := ?_) rfl (by kernel_rfl) (by kernel_rfl) (by kernel_rfl) (fun _ _ _ h => h) (Or.inl ⟨by rfl, ?_⟩) (by assumption) ?_
          rotate_left
          · (intro W hSw; obtain ⟨⟨c0, c1, c2, c3, c4, c5, c6, c7⟩, _⟩ := PG.cells hSw; dsimp only at c0 c1 c2 c3 c4 c5 c6 c7; have hgT := PG.hT hSw; have hgw := PG.hg hSw; go_simp; try with_reducible rfl)
          try simp only [Act.put, List.getElem_toArray, List.getElem_cons_succ, List.getElem_cons_zero, List.setIfInBounds_toArray, List.set_cons_zero, List.set_cons_succ]
          obtain ⟨y0, hy0⟩ := PG.r hHeld
          have HRr := Lib.hid (setRow_heap (Wsn.drew) w.heap.size _ (⟨4, 0, 0, 0, 0, 0, 0, ⟨#[]⟩⟩ : St).cells 26 (0, 0) hy0)
          refine wpAnyH_ready (rs := [6]) (by kernel_rfl) (by simp) ?_
          refine AllReadyH.cons rfl (fun K hK => ?_) AllReadyH.nil
          simp only [List.getElem_toArray, List.getElem_cons_succ, List.getElem_cons_zero]
          rw [if_pos (by rfl)]
          refine wp_store_row 26 _ _ rfl w.heap.size (⟨4, 0, 0, 0, 0, 0, 0, ⟨#[]⟩⟩ : St).cells rfl rfl 26 _ hy0 (hi8 (⟨4, 0, 0, 0, 0, 0, 0, ⟨#[]⟩⟩ : St)) rfl (cells8_one _) ?_
          refine hK.out _ _ (PG.setR hHeld) (fun hHeld => ?_)
          clear hK K
          try simp only [Act.put, List.setIfInBounds_toArray, List.set_cons_zero, List.set_cons_succ]
          refine wpAnyH_take (i := 7) (oi := _) (v := ?_) rfl (by kernel_rfl) (by kernel_rfl) (by kernel_rfl) (fun _ _ _ h => h) (Or.inl ⟨by rfl, ?_⟩) (by assumption) ?_
          rotate_left
          · (intro W hSw; skip; go_simp; try with_reducible rfl)
          try simp only [Act.put, List.getElem_toArray, List.getElem_cons_succ, List.getElem_cons_zero, List.setIfInBounds_toArray, List.set_cons_zero, List.set_cons_succ]
          refine wpAnyH_done (by kernel_rfl) ?_ _
          have hB9 := PG.b hHeld
          obtain ⟨W9, hW9⟩ : ∃ W9, W9 = (Wsn.drew).setRow w.heap.size (⟨4, 0, 0, 0, 0, 0, 0, ⟨#[]⟩⟩ : St).cells := ⟨_, rfl⟩
          have HR' := HRr.out
          rw [← hW9] at HR' hB9 ⊢
          clear hW9 hy0 hHeld HRr
          go_wp2_with fail
          exact bodyPost_ret (res8p _ _ w.heap.size (⟨4, 0, 0, 0, 0, 0, 0, ⟨#[]⟩⟩ : St) false rfl rfl HR') rfl ⟨.inr ⟨HE.out, (⟨4, 0, 0, 0, 0, 0, 0, ⟨#[]⟩⟩ : St), rfl⟩, hB9⟩
        | some us =>
          have w1 := HP3.out.row 1 (by have := HM.out; omega)
          have hl0 : 1 < xs.length := by have := HM.out; omega
          have hl1 : (1 : Int) < (xs.length : Int) := by omega
          have hgT := HP3.out.hT
          go_wp2_with fail
          refine (small_some (m := 1) hss (by have := xs_sz HXs.out 1; have := HS.out; omega) (by decide) _).mono ?_
          rintro _ wq ⟨rfl, hq⟩
          obtain rfl := hq.symm
          clear hq
          go_upto_region 18 with fail
          have HQs := Lib.hid (HP3.out.set (x' := (⟨4, (us : Int), 0, 0, 0, 0, 0, ⟨#[]⟩⟩ : St)) 1 (.int .i64 (us : Int)) rfl)
          generalize w3.setCell ⟨T, 1, none⟩ (.int .i64 (us : Int)) = Wss at HQs ⊢
          clear c0 c1 c2 c3 c4 c5 c6 c7 z0 z1 z2 z3 z4 z6 z7 w1 hl0 hl1 hgT
          obtain ⟨⟨c0, c1, c2, c3, c4, c5, c6, c7⟩, z0, z1, z2, z3, z4, z6, z7⟩ := HQs.out.cells
          dsimp only at c0 c1 c2 c3 c4 c5 c6 c7
          have hus := (sm_some hss).1
          go_wp2_with fail
          refine (in_s_110 _).mono ?_
          rintro _ wq ⟨rfl, hq⟩
          obtain rfl := hq.symm
          clear hq
          go_wp2_with fail
          refine (St15.in_s_112 _).mono ?_
          rintro _ wq ⟨rfl, hq⟩
          obtain rfl := hq.symm
          clear hq
          have HE := Lib.hid (show strict (sp s.data.toList) = some (⟨4, (us : Int), 0, 0, 0, 0, 0, ⟨#[]⟩⟩ : St) by rw [strict_two (k := 4) HK.out (by decide) (show sp s.data.toList = _ by rw [← HXs.out]; exact two2 HM.out), show mxN 4 = 1 from rfl, hss]; rfl)
          go_upto_region 28 with fail
          clear c0 c1 c2 c3 c4 c5 c6 c7 z0 z1 z2 z3 z4 z6 z7
          refine wp_region_held_drew (S := fun V => PG w V T g xs (⟨4, (us : Int), 0, 0, 0, 0, 0, ⟨#[]⟩⟩ : St)) (by kernel_rfl) (HQs.out.below (Below.refl _ _).drew) (fun hHeld => ?_)
          refine wpAnyH_take (i := 0) (oi := _) (v := ?_) rfl (by kernel_rfl) (by kernel_rfl) (by kernel_rfl) (fun _ _ _ h => h) (Or.inl ⟨by rfl, ?_⟩) (by assumption) ?_
          rotate_left
          · (intro W hSw; obtain ⟨⟨c0, c1, c2, c3, c4, c5, c6, c7⟩, _⟩ := PG.cells hSw; dsimp only at c0 c1 c2 c3 c4 c5 c6 c7; have hgT := PG.hT hSw; have hgw := PG.hg hSw; go_simp; try with_reducible rfl)
          try simp only [Act.put, List.getElem_toArray, List.getElem_cons_zero, List.setIfInBounds_toArray, List.set_cons_zero, List.set_cons_succ]
          refine wpAnyH_take (i := 1) (oi := _) (v := ?_) rfl (by kernel_rfl) (by kernel_rfl) (by kernel_rfl) (fun _ _ _ h => h) (Or.inl ⟨by rfl, ?_⟩) (by assumption) ?_
          rotate_left
          · (intro W hSw; obtain ⟨⟨c0, c1, c2, c3, c4, c5, c6, c7⟩, _⟩ := PG.cells hSw; dsimp only at c0 c1 c2 c3 c4 c5 c6 c7; have hgT := PG.hT hSw; have hgw := PG.hg hSw; go_simp; try with_reducible rfl)
          try simp only [Act.put, List.getElem_toArray, List.getElem_cons_succ, List.getElem_cons_zero, List.setIfInBounds_toArray, List.set_cons_zero, List.set_cons_succ]
          refine wpAnyH_take (i := 2) (oi := _) (v := ?_) rfl (by kernel_rfl) (by kernel_rfl) (by kernel_rfl) (fun _ _ _ h => h) (Or.inl ⟨by rfl, ?_⟩) (by assumption) ?_
          rotate_left
          · (intro W hSw; obtain ⟨⟨c0, c1, c2, c3, c4, c5, c6, c7⟩, _⟩ := PG.cells hSw; dsimp only at c0 c1 c2 c3 c4 c5 c6 c7; have hgT := PG.hT hSw; have hgw := PG.hg hSw; go_simp; try with_reducible rfl)
          try simp only [Act.put, List.getElem_toArray, List.getElem_cons_succ, List.getElem_cons_zero, List.setIfInBounds_toArray, List.set_cons_zero, List.set_cons_succ]
          refine wpAnyH_take (i := 3) (oi := _) (v := ?_) rfl (by kernel_rfl) (by kernel_rfl) (by kernel_rfl) (fun _ _ _ h => h) (Or.inl ⟨by rfl, ?_⟩) (by assumption) ?_
          rotate_left
          · (intro W hSw; obtain ⟨⟨c0, c1, c2, c3, c4, c5, c6, c7⟩, _⟩ := PG.cells hSw; dsimp only at c0 c1 c2 c3 c4 c5 c6 c7; have hgT := PG.hT hSw; have hgw := PG.hg hSw; go_simp; try with_reducible rfl)
          try simp only [Act.put, List.getElem_toArray, List.getElem_cons_succ, List.getElem_cons_zero, List.setIfInBounds_toArray, List.set_cons_zero, List.set_cons_succ]
          refine wpAnyH_ready (rs := [4]) (by kernel_rfl) (by simp) ?_
          refine AllReadyH.cons rfl (fun K hK => ?_) AllReadyH.nil
          simp only [List.getElem_toArray, List.getElem_cons_succ, List.getElem_cons_zero]
          rw [if_pos (by rfl)]
          go_simp
          refine (St15.right_4 (us : Int) (by omega) (by omega) _).mono ?_
          rintro _ wr1 ⟨rfl, br1⟩
          go_wp2_with fail
          refine hK.out _ _ (PG.below hHeld br1) (fun hHeld => ?_)
          clear hK K
          try simp only [Act.put, List.getElem_toArray, List.getElem_cons_succ, List.getElem_cons_zero, List.setIfInBounds_toArray, List.set_cons_zero, List.set_cons_succ]
          refine wpAnyH_take (i := 5) (oi := _) (v := ?_) rfl (by kernel_rfl) (by kernel_rfl) (by kernel_rfl) (fun _ _ _ h => h) (Or.inl ⟨by rfl, ?_⟩) (by assumption) ?_
          rotate_left
          · (intro W hSw; obtain ⟨⟨c0, c1, c2, c3, c4, c5, c6, c7⟩, _⟩ := PG.cells hSw; dsimp only at c0 c1 c2 c3 c4 c5 c6 c7; have hgT := PG.hT hSw; have hgw := PG.hg hSw; go_simp; try with_reducible rfl)
          try simp only [Act.put, List.getElem_toArray, List.getElem_cons_succ, List.getElem_cons_zero, List.setIfInBounds_toArray, List.set_cons_zero, List.set_cons_succ]
          obtain ⟨y0, hy0⟩ := PG.r hHeld
          have HRr := Lib.hid (setRow_heap (wr1) w.heap.size _ (⟨4, (us : Int), 0, 0, 0, 0, 0, ⟨#[]⟩⟩ : St).cells 26 (0, 0) hy0)
          refine wpAnyH_ready (rs := [6]) (by kernel_rfl) (by simp) ?_
          refine AllReadyH.cons rfl (fun K hK => ?_) AllReadyH.nil
          simp only [List.getElem_toArray, List.getElem_cons_succ, List.getElem_cons_zero]
          rw [if_pos (by rfl)]
          refine wp_store_row 26 _ _ rfl w.heap.size (⟨4, (us : Int), 0, 0, 0, 0, 0, ⟨#[]⟩⟩ : St).cells rfl rfl 26 _ hy0 (hi8 (⟨4, (us : Int), 0, 0, 0, 0, 0, ⟨#[]⟩⟩ : St)) rfl (cells8_one _) ?_
          refine hK.out _ _ (PG.setR hHeld) (fun hHeld => ?_)
          clear hK K
          try simp only [Act.put, List.setIfInBounds_toArray, List.set_cons_zero, List.set_cons_succ]
          refine wpAnyH_take (i := 7) (oi := _) (v := ?_) rfl (by kernel_rfl) (by kernel_rfl) (by kernel_rfl) (fun _ _ _ h => h) (Or.inl ⟨by rfl, ?_⟩) (by assumption) ?_
          rotate_left
          · (intro W hSw; skip; go_simp; try with_reducible rfl)
          try simp only [Act.put, List.getElem_toArray, List.getElem_cons_succ, List.getElem_cons_zero, List.setIfInBounds_toArray, List.set_cons_zero, List.set_cons_succ]
          refine wpAnyH_done (by kernel_rfl) ?_ _
          have hB9 := PG.b hHeld
          obtain ⟨W9, hW9⟩ : ∃ W9, W9 = (wr1).setRow w.heap.size (⟨4, (us : Int), 0, 0, 0, 0, 0, ⟨#[]⟩⟩ : St).cells := ⟨_, rfl⟩
          have HR' := HRr.out
          rw [← hW9] at HR' hB9 ⊢
          clear hW9 hy0 hHeld HRr
          go_wp2_with fail
          exact bodyPost_ret (res8p _ _ w.heap.size (⟨4, (us : Int), 0, 0, 0, 0, 0, ⟨#[]⟩⟩ : St) true rfl rfl HR') rfl ⟨.inl ⟨(⟨4, (us : Int), 0, 0, 0, 0, 0, ⟨#[]⟩⟩ : St), HE.out, rfl⟩, hB9⟩
      · have hm1 : ((xs.length : Int) == 2) = false := by rw [beq_eq_false_iff_ne]; omega
        have hm2 : ((xs.length : Int) != 2) = true := by rw [bne_iff_ne]; omega
        have HE := Lib.hid (strict_many HK.out (by decide) (show (sp s.data.toList).length ≠ manyK 4 by rw [← HXs.out, List.length_map]; exact hm))
        clear hm
        go_upto_region 13 with fail
        refine wp_region_lit ?_
        refine wpList_load_row rfl 26 _ rfl T rfl 26 (⟨4, 0, 0, 0, 0, 0, 0, ⟨#[]⟩⟩ : St).cells (0, 0) _ HP3.out.t Tryz.underlying26 rfl (hi8 (⟨4, 0, 0, 0, 0, 0, 0, ⟨#[]⟩⟩ : St)) ?_
        obtain ⟨y0, hy0⟩ := HP3.out.r
        refine wpList_store_rowTo rfl 26 _ _ rfl rfl w.heap.size (⟨4, 0, 0, 0, 0, 0, 0, ⟨#[]⟩⟩ : St).cells rfl rfl 26 _ hy0 (hi8 (⟨4, 0, 0, 0, 0, 0, 0, ⟨#[]⟩⟩ : St)) rfl (cells8_one _) ?_
        have HR' := setRow_heap w3 w.heap.size _ (⟨4, 0, 0, 0, 0, 0, 0, ⟨#[]⟩⟩ : St).cells 26 (0, 0) hy0
        have hB9 := (HP3.out.setR (y := (⟨4, 0, 0, 0, 0, 0, 0, ⟨#[]⟩⟩ : St))).b
        obtain ⟨W9, hW9⟩ : ∃ W9, W9 = w3.setRow w.heap.size (⟨4, 0, 0, 0, 0, 0, 0, ⟨#[]⟩⟩ : St).cells := ⟨_, rfl⟩
        rw [← hW9] at HR' hB9 ⊢
        clear hW9 hy0
        go_wp2_with fail
        exact bodyPost_ret (res8p _ _ w.heap.size (⟨4, 0, 0, 0, 0, 0, 0, ⟨#[]⟩⟩ : St) false rfl rfl HR') rfl ⟨.inr ⟨HE.out, (⟨4, 0, 0, 0, 0, 0, 0, ⟨#[]⟩⟩ : St), rfl⟩, hB9⟩

set_option maxHeartbeats 4000000 in
set_option maxRecDepth 100000 in
theorem rparse_5 (s : ByteArray) (hs : s.size ≤ 2000) (hk : kL ((sp s.data.toList).getD 0 []) = 5) (w : World) : Calls Tryz.prog 66 #[.string s] w fun e w' => pP s.data.toList e ∧ Below w.heap.size w w' := by
  have HS := Lib.hid hs
  have HK := Lib.hid hk
  clear hs hk
  go_enter Tryz.func66, Tryz.ntmps66
  go_wp2_with fail
  refine (words_any s (by have := HS.out; omega) _).mono ?_
  rintro _ w1 ⟨⟨v, xs, rfl, hown, hxs⟩, hb1⟩
  have hxn : xs ≠ [] := fun e => sp_ne s.data.toList (by rw [← hxs, e]; rfl)
  have HXn := Lib.hid hxn
  have HXs := Lib.hid hxs
  simp only [World.size_alloc] at hown
  obtain ⟨g, cap, rfl, hpg⟩ := PG.start (w := w) hb1 hown hxn
  have HP := Lib.hid hpg
  have HN := Lib.hid (List.length_pos_iff.2 hxn)
  have H0 : Hid (kL (gx xs 0).data.toList = 5) := Lib.hid (by
    have e : (gx xs 0).data.toList = (sp s.data.toList).getD 0 [] := by
      unfold gx
      rw [← hxs, List.getD_eq_getElem?_getD, List.getD_eq_getElem?_getD, List.getElem?_map]
      cases hx : xs[0]? with
      | none => exact absurd (List.getElem?_eq_none_iff.1 hx) (by have := HN.out; omega)
      | some a => rfl
    rw [e]; exact HK.out)
  clear hown hb1 hpg hxn hxs
  obtain ⟨T, hT⟩ : ∃ T, w1.heap.size = T := ⟨_, rfl⟩
  go_upto_region 3 with fail
  rw [hT] at HP
  obtain ⟨W2, hW2⟩ : ∃ W2, W2 = w1.alloc (.cells St0.cells 26) := ⟨_, rfl⟩
  have HP2 : Hid (PG w W2 T g xs St0) := by rw [hW2]; exact HP
  rw [show w1.alloc (.cells #[.int .i64 0, .int .i64 0, .int .i64 0, .int .i64 0, .int .i64 0, .int .u64 0, .int .u64 0, .string ⟨#[]⟩] 26) = W2 from hW2.symm]
  have hn0 : (0 : Int) < (xs.length : Int) := by have := HN.out; omega
  clear hW2 HP hT
  go_wp2_with fail
  go_loopw [6] (fun i wr => ∃ kq : Nat, i = .int .i64 (kq : Int) ∧ 1 ≤ kq ∧ kq ≤ 9 ∧ Hid (PG w wr T g xs (stK (kx 5 kq)))) (fun i _ => 9 - (RowKit.intOf i).toNat)
  case atStart => exact ⟨1, rfl, by omega, by omega, HP2⟩
  case round =>
    obtain ⟨kq, rfl, hk1, hk9, HP⟩ := hrel
    clear HP2
    by_cases h8 : kq ≤ 8
    · have hk8 : (kq : Int) ≤ 8 := by omega
      have hk0 : (0 : Int) ≤ (kq : Int) := by omega
      go_upto_region 6 with fail
      refine wp_region_held_drew (S := fun V => PG w V T g xs (stK (kx 5 kq))) (by kernel_rfl) (HP.out.below (Below.refl _ _).drew) (fun hHeld => ?_)
      refine wpAnyH_take (i := 0) (oi := _) (v := ?_) rfl (by kernel_rfl) (by kernel_rfl) (by kernel_rfl) (fun _ _ _ h => h) (Or.inl ⟨by rfl, ?_⟩) (by assumption) ?_
      rotate_left
      · (intro W hSw; obtain ⟨⟨c0, c1, c2, c3, c4, c5, c6, c7⟩, _⟩ := PG.cells hSw; have w0 := PG.row hSw 0 HN.out; have hn0n := HN.out; go_simp; try with_reducible rfl)
      try simp only [Act.put, List.getElem_toArray, List.getElem_cons_zero, List.setIfInBounds_toArray, List.set_cons_zero, List.set_cons_succ]
      refine wpAnyH_take (i := 2) (oi := _) (v := ?_) rfl (by kernel_rfl) (by kernel_rfl) (by kernel_rfl) (fun _ _ _ h => h) (Or.inl ⟨by rfl, ?_⟩) (by assumption) ?_
      rotate_left
      · (intro W hSw; obtain ⟨⟨c0, c1, c2, c3, c4, c5, c6, c7⟩, _⟩ := PG.cells hSw; have w0 := PG.row hSw 0 HN.out; have hn0n := HN.out; go_simp; try with_reducible rfl)
      try simp only [Act.put, List.getElem_toArray, List.getElem_cons_succ, List.getElem_cons_zero, List.setIfInBounds_toArray, List.set_cons_zero, List.set_cons_succ]
      refine wpAnyH_take (i := 3) (oi := _) (v := ?_) rfl (by kernel_rfl) (by kernel_rfl) (by kernel_rfl) (fun _ _ _ h => h) (Or.inl ⟨by rfl, ?_⟩) (by assumption) ?_
      rotate_left
      · (intro W hSw; obtain ⟨⟨c0, c1, c2, c3, c4, c5, c6, c7⟩, _⟩ := PG.cells hSw; have w0 := PG.row hSw 0 HN.out; have hn0n := HN.out; go_simp; try with_reducible rfl)
      try simp only [Act.put, List.getElem_toArray, List.getElem_cons_succ, List.getElem_cons_zero, List.setIfInBounds_toArray, List.set_cons_zero, List.set_cons_succ]
      refine wpAnyH_take (i := 4) (oi := _) (v := ?_) rfl (by kernel_rfl) (by kernel_rfl) (by kernel_rfl) (fun _ _ _ h => h) (Or.inl ⟨by rfl, ?_⟩) (by assumption) ?_
      rotate_left
      · (intro W hSw; obtain ⟨⟨c0, c1, c2, c3, c4, c5, c6, c7⟩, _⟩ := PG.cells hSw; have w0 := PG.row hSw 0 HN.out; have hn0n := HN.out; go_simp; try with_reducible rfl)
      try simp only [Act.put, List.getElem_toArray, List.getElem_cons_succ, List.getElem_cons_zero, List.setIfInBounds_toArray, List.set_cons_zero, List.set_cons_succ]
      refine wpAnyH_ready (rs := [1]) (by kernel_rfl) (by simp) ?_
      refine AllReadyH.cons rfl (fun K hK => ?_) AllReadyH.nil
      simp only [List.getElem_toArray, List.getElem_cons_succ, List.getElem_cons_zero]
      rw [if_pos (by rfl)]
      go_simp
      refine (rword_any kq hk1 h8 _).mono ?_
      rintro _ wb ⟨rfl, hb⟩
      go_wp2_with fail
      refine hK.out _ _ (PG.below hHeld hb) (fun hHeld => ?_)
      clear hK K
      try simp only [Act.put, List.getElem_toArray, List.getElem_cons_succ, List.getElem_cons_zero, List.setIfInBounds_toArray, List.set_cons_zero, List.set_cons_succ]
      refine wpAnyH_take (i := 5) (oi := _) (v := ?_) rfl (by kernel_rfl) (by kernel_rfl) (by kernel_rfl) (fun _ _ _ h => h) (Or.inl ⟨by rfl, ?_⟩) (by assumption) ?_
      rotate_left
      · (intro W hSw; obtain ⟨⟨c0, c1, c2, c3, c4, c5, c6, c7⟩, _⟩ := PG.cells hSw; have w0 := PG.row hSw 0 HN.out; have hn0n := HN.out; go_simp; try with_reducible rfl)
      try simp only [Act.put, List.getElem_toArray, List.getElem_cons_succ, List.getElem_cons_zero, List.setIfInBounds_toArray, List.set_cons_zero, List.set_cons_succ]
      refine wpAnyH_done (by kernel_rfl) ?_ _
      have HPb := Lib.hid hHeld
      clear hHeld HP
      by_cases he : kq = 5
      · subst he
        have e1 : ((wdB 5).toList == (gx xs 0).toList) = true := by
          rw [beq_iff_eq, ByteArray.toList_eq, ByteArray.toList_eq, wd_kL H0.out (by decide)]; rfl
        rw [e1]
        clear e1
        obtain ⟨⟨c0, c1, c2, c3, c4, c5, c6, c7⟩, z0, z1, z2, z3, z4, z6, z7⟩ := HPb.out.cells
        have hgT := HPb.out.hT
        clear hk1 hk9 h8 hk8 hk0
        go_wp2
        go_roundw
        case rel => exact ⟨5 + 1, by go_num, by omega, by omega, Lib.hid (HPb.out.set 0 _ rfl)⟩
        case measure => simp [RowKit.intOf]
      have e1 : ((wdB kq).toList == (gx xs 0).toList) = false := tl_ne fun e => he (by
        have := H0.out
        rw [← e] at this
        exact (kL_first hk1 h8 (by simp [wdB])).symm.trans this)
      rw [← kx_ne he] at HPb
      have HE9 := Lib.hid (And.intro hk1 h8)
      clear he hk1 hk9 h8
      rw [e1]
      clear e1
      go_wp2
      go_roundw
      case rel => exact ⟨kq + 1, by go_num, by omega, by have := HE9.out; omega, HPb⟩
      case measure => have := HE9.out; simp [RowKit.intOf]; omega
    · obtain rfl : kq = 9 := by omega
      rw [show stK (kx 5 9) = (⟨5, 0, 0, 0, 0, 0, 0, ⟨#[]⟩⟩ : St) from rfl] at HP
      clear h8 hk1 hk9
      obtain ⟨⟨c0, c1, c2, c3, c4, c5, c6, c7⟩, z0, z1, z2, z3, z4, z6, z7⟩ := HP.out.cells
      dsimp only at c0 c1 c2 c3 c4 c5 c6 c7
      go_wp2_with fail
      refine (St15.has_5 _).mono ?_
      rintro _ w3 ⟨rfl, hb3⟩
      have HP3 := Lib.hid (HP.out.below hb3)
      clear hb3 HP
      clear c0 c1 c2 c3 c4 c5 c6 c7 z0 z1 z2 z3 z4 z6 z7
      obtain ⟨⟨c0, c1, c2, c3, c4, c5, c6, c7⟩, z0, z1, z2, z3, z4, z6, z7⟩ := HP3.out.cells
      dsimp only at c0 c1 c2 c3 c4 c5 c6 c7
      go_wp2_with fail
      refine (St15.in_n_112 _).mono ?_
      rintro _ wq ⟨rfl, hq⟩
      obtain rfl := hq.symm
      clear hq
      by_cases hm : xs.length = 2
      · have hm1 : ((xs.length : Int) == 2) = true := by rw [hm]; rfl
        have hm2 : ((xs.length : Int) != 2) = false := by rw [hm]; rfl
        have HM := Lib.hid hm
        clear hm
        go_wp2_with fail
        refine (St15.in_n_115 _).mono ?_
        rintro _ wq ⟨rfl, hq⟩
        obtain rfl := hq.symm
        clear hq
        go_wp2_with fail
        refine (in_n_110 _).mono ?_
        rintro _ wq ⟨rfl, hq⟩
        obtain rfl := hq.symm
        clear hq
        cases hsn : sm (gx xs 1).data.toList 7 with
        | none =>
          go_upto_region 20 with fail
          clear c0 c1 c2 c3 c4 c5 c6 c7 z0 z1 z2 z3 z4 z6 z7
          have HLt := Lib.hid (show 1 < xs.length by have := HM.out; omega)
          have HLi := Lib.hid (show (1 : Int) < (xs.length : Int) by have := HLt.out; omega)
          have HAt := Lib.hid (show (0 : Int) ≤ 1 by decide)
          have HQ := Lib.hid (HP3.out.below (Below.refl _ _).drew)
          refine wp_region_held_drew (S := fun V => ∃ yy : St, yy.k = 5 ∧ PG w V T g xs yy) (by kernel_rfl) ⟨_, rfl, HQ.out⟩ (fun hHeld => ?_)
          obtain ⟨Wq, hWq⟩ : ∃ Wq, Wq = w3.drew := ⟨_, rfl⟩
          rw [← hWq] at HQ hHeld ⊢
          clear hWq
          refine wpAnyH_take (i := 0) (oi := _) (v := ?_) rfl (by kernel_rfl) (by kernel_rfl) (by kernel_rfl) (fun _ _ _ h => h) (Or.inl ⟨by rfl, ?_⟩) (by assumption) ?_
          rotate_left
          · (intro W hSw; obtain ⟨yy, hyk, hSw⟩ := hSw; obtain ⟨⟨c0, c1, c2, c3, c4, c5, c6, c7⟩, z0, z1, z2, z3, z4, z6, z7⟩ := PG.cells hSw; rw [hyk] at c0; have hgT := PG.hT hSw; have wa := PG.row hSw 1 HLt.out; have hlt := HLt.out; have hlti := HLi.out; have hat := HAt.out; go_simp; try with_reducible rfl)
          try simp only [Act.put, List.getElem_toArray, List.getElem_cons_zero, List.setIfInBounds_toArray, List.set_cons_zero, List.set_cons_succ]
          refine wpAnyH_take (i := 1) (oi := _) (v := ?_) rfl (by kernel_rfl) (by kernel_rfl) (by kernel_rfl) (fun _ _ _ h => h) (Or.inl ⟨by rfl, ?_⟩) (by assumption) ?_
          rotate_left
          · (intro W hSw; obtain ⟨yy, hyk, hSw⟩ := hSw; obtain ⟨⟨c0, c1, c2, c3, c4, c5, c6, c7⟩, z0, z1, z2, z3, z4, z6, z7⟩ := PG.cells hSw; rw [hyk] at c0; have hgT := PG.hT hSw; have wa := PG.row hSw 1 HLt.out; have hlt := HLt.out; have hlti := HLi.out; have hat := HAt.out; go_simp; try with_reducible rfl)
          try simp only [Act.put, List.getElem_toArray, List.getElem_cons_succ, List.getElem_cons_zero, List.setIfInBounds_toArray, List.set_cons_zero, List.set_cons_succ]
          refine wpAnyH_take (i := 2) (oi := _) (v := ?_) rfl (by kernel_rfl) (by kernel_rfl) (by kernel_rfl) (fun _ _ _ h => h) (Or.inl ⟨by rfl, ?_⟩) (by assumption) ?_
          rotate_left
          · (intro W hSw; obtain ⟨yy, hyk, hSw⟩ := hSw; obtain ⟨⟨c0, c1, c2, c3, c4, c5, c6, c7⟩, z0, z1, z2, z3, z4, z6, z7⟩ := PG.cells hSw; rw [hyk] at c0; have hgT := PG.hT hSw; have wa := PG.row hSw 1 HLt.out; have hlt := HLt.out; have hlti := HLi.out; have hat := HAt.out; go_simp; try with_reducible rfl)
          try simp only [Act.put, List.getElem_toArray, List.getElem_cons_succ, List.getElem_cons_zero, List.setIfInBounds_toArray, List.set_cons_zero, List.set_cons_succ]
          refine wpAnyH_take (i := 3) (oi := _) (v := ?_) rfl (by kernel_rfl) (by kernel_rfl) (by kernel_rfl) (fun _ _ _ h => h) (Or.inl ⟨by rfl, ?_⟩) (by assumption) ?_
          rotate_left
          · (intro W hSw; obtain ⟨yy, hyk, hSw⟩ := hSw; obtain ⟨⟨c0, c1, c2, c3, c4, c5, c6, c7⟩, z0, z1, z2, z3, z4, z6, z7⟩ := PG.cells hSw; rw [hyk] at c0; have hgT := PG.hT hSw; have wa := PG.row hSw 1 HLt.out; have hlt := HLt.out; have hlti := HLi.out; have hat := HAt.out; go_simp; try with_reducible rfl)
          try simp only [Act.put, List.getElem_toArray, List.getElem_cons_succ, List.getElem_cons_zero, List.setIfInBounds_toArray, List.set_cons_zero, List.set_cons_succ]
          refine wpAnyH_take (i := 4) (oi := _) (v := ?_) rfl (by kernel_rfl) (by kernel_rfl) (by kernel_rfl) (fun _ _ _ h => h) (Or.inl ⟨by rfl, ?_⟩) (by assumption) ?_
          rotate_left
          · (intro W hSw; obtain ⟨yy, hyk, hSw⟩ := hSw; obtain ⟨⟨c0, c1, c2, c3, c4, c5, c6, c7⟩, z0, z1, z2, z3, z4, z6, z7⟩ := PG.cells hSw; rw [hyk] at c0; have hgT := PG.hT hSw; have wa := PG.row hSw 1 HLt.out; have hlt := HLt.out; have hlti := HLi.out; have hat := HAt.out; go_simp; try with_reducible rfl)
          try simp only [Act.put, List.getElem_toArray, List.getElem_cons_succ, List.getElem_cons_zero, List.setIfInBounds_toArray, List.set_cons_zero, List.set_cons_succ]
          refine wpAnyH_take (i := 5) (oi := _) (v := ?_) rfl (by kernel_rfl) (by kernel_rfl) (by kernel_rfl) (fun _ _ _ h => h) (Or.inl ⟨by rfl, ?_⟩) (by assumption) ?_
          rotate_left
          · (intro W hSw; obtain ⟨yy, hyk, hSw⟩ := hSw; obtain ⟨⟨c0, c1, c2, c3, c4, c5, c6, c7⟩, z0, z1, z2, z3, z4, z6, z7⟩ := PG.cells hSw; rw [hyk] at c0; have hgT := PG.hT hSw; have wa := PG.row hSw 1 HLt.out; have hlt := HLt.out; have hlti := HLi.out; have hat := HAt.out; go_simp; try with_reducible rfl)
          try simp only [Act.put, List.getElem_toArray, List.getElem_cons_succ, List.getElem_cons_zero, List.setIfInBounds_toArray, List.set_cons_zero, List.set_cons_succ]
          refine wpAnyH_ready (rs := [6]) (by kernel_rfl) (by simp) ?_
          refine AllReadyH.cons rfl (fun K hK => ?_) AllReadyH.nil
          simp only [List.getElem_toArray, List.getElem_cons_succ, List.getElem_cons_zero]
          rw [if_pos (by rfl)]
          go_simp
          refine (St15.most_5' _).mono ?_
          rintro _ wm ⟨rfl, hwm⟩
          obtain rfl := hwm.symm
          go_wp2_with fail
          refine hK.out _ _ hHeld (fun hHeld => ?_)
          clear hK K
          try simp only [Act.put, List.getElem_toArray, List.getElem_cons_succ, List.getElem_cons_zero, List.setIfInBounds_toArray, List.set_cons_zero, List.set_cons_succ]
          refine wpAnyH_ready (rs := [7]) (by kernel_rfl) (by simp) ?_
          refine AllReadyH.cons rfl (fun K hK => ?_) AllReadyH.nil
          simp only [List.getElem_toArray, List.getElem_cons_succ, List.getElem_cons_zero]
          rw [if_pos (by rfl)]
          go_simp
          refine (small_none (m := 7) hsn (by have := xs_sz HXs.out 1; have := HS.out; omega) (by decide) _).mono ?_
          rintro _ wm ⟨rfl, hwm2⟩
          obtain rfl := hwm2.symm
          go_wp2_with fail
          refine hK.out _ _ hHeld (fun hHeld => ?_)
          clear hK K
          try simp only [Act.put, List.getElem_toArray, List.getElem_cons_succ, List.getElem_cons_zero, List.setIfInBounds_toArray, List.set_cons_zero, List.set_cons_succ]
          refine wpAnyH_take (i := 8) (oi := _) (v := ?_) rfl (by kernel_rfl) (by kernel_rfl) (by kernel_rfl) (fun _ _ _ h => h) (Or.inl ⟨by rfl, ?_⟩) (by assumption) ?_
          rotate_left
          · (intro W hSw; obtain ⟨yy, hyk, hSw⟩ := hSw; obtain ⟨⟨c0, c1, c2, c3, c4, c5, c6, c7⟩, z0, z1, z2, z3, z4, z6, z7⟩ := PG.cells hSw; rw [hyk] at c0; have hgT := PG.hT hSw; have wa := PG.row hSw 1 HLt.out; have hlt := HLt.out; have hlti := HLi.out; have hat := HAt.out; go_simp; try with_reducible rfl)
          try simp only [Act.put, List.getElem_toArray, List.getElem_cons_succ, List.getElem_cons_zero, List.setIfInBounds_toArray, List.set_cons_zero, List.set_cons_succ]
          refine wpAnyH_take (i := 9) (oi := _) (v := ?_) rfl (by kernel_rfl) (by kernel_rfl) (by kernel_rfl) (fun _ _ _ h => h) (Or.inl ⟨by rfl, ?_⟩) (by assumption) ?_
          rotate_left
          · (intro W hSw; obtain ⟨yy, hyk, hSw⟩ := hSw; obtain ⟨⟨c0, c1, c2, c3, c4, c5, c6, c7⟩, z0, z1, z2, z3, z4, z6, z7⟩ := PG.cells hSw; rw [hyk] at c0; have hgT := PG.hT hSw; have wa := PG.row hSw 1 HLt.out; have hlt := HLt.out; have hlti := HLi.out; have hat := HAt.out; go_simp; try with_reducible rfl)
          try simp only [Act.put, List.getElem_toArray, List.getElem_cons_succ, List.getElem_cons_zero, List.setIfInBounds_toArray, List.set_cons_zero, List.set_cons_succ]
          refine wpAnyH_take (i := 10) (oi := _) (v := ?_) rfl (by kernel_rfl) (by kernel_rfl) (by kernel_rfl) (fun _ _ _ h => h) (Or.inl ⟨by rfl, ?_⟩) (by assumption) ?_
          rotate_left
          · (intro W hSw; obtain ⟨yy, hyk, hSw⟩ := hSw; obtain ⟨⟨c0, c1, c2, c3, c4, c5, c6, c7⟩, z0, z1, z2, z3, z4, z6, z7⟩ := PG.cells hSw; rw [hyk] at c0; have hgT := PG.hT hSw; have wa := PG.row hSw 1 HLt.out; have hlt := HLt.out; have hlti := HLi.out; have hat := HAt.out; go_simp; try with_reducible rfl)
          try simp only [Act.put, List.getElem_toArray, List.getElem_cons_succ, List.getElem_cons_zero, List.setIfInBounds_toArray, List.set_cons_zero, List.set_cons_succ]
          refine wpAnyH_take (i := 11) (oi := _) (v := ?_) rfl (by kernel_rfl) (by kernel_rfl) (by kernel_rfl) (fun _ _ _ h => h) (Or.inl ⟨by rfl, ?_⟩) (by assumption) ?_
          rotate_left
          · (intro W hSw; obtain ⟨yy, hyk, hSw⟩ := hSw; obtain ⟨⟨c0, c1, c2, c3, c4, c5, c6, c7⟩, z0, z1, z2, z3, z4, z6, z7⟩ := PG.cells hSw; rw [hyk] at c0; have hgT := PG.hT hSw; have wa := PG.row hSw 1 HLt.out; have hlt := HLt.out; have hlti := HLi.out; have hat := HAt.out; go_simp; try with_reducible rfl)
          try simp only [Act.put, List.getElem_toArray, List.getElem_cons_succ, List.getElem_cons_zero, List.setIfInBounds_toArray, List.set_cons_zero, List.set_cons_succ]
          obtain ⟨⟨c0, c1, c2, c3, c4, c5, c6, c7⟩, z0, z1, z2, z3, z4, z6, z7⟩ := HQ.out.cells
          have hgT := HQ.out.hT
          have HQ2 := Lib.hid (HQ.out.set (x' := (⟨5, 0, 0, 0, 0, 0, 0, ⟨#[]⟩⟩ : St)) 2 (.int .i64 0) rfl)
          refine wpAnyH_ready (rs := [12]) (by kernel_rfl) (by simp) ?_
          refine AllReadyH.cons rfl (fun K hK => ?_) AllReadyH.nil
          simp only [List.getElem_toArray, List.getElem_cons_succ, List.getElem_cons_zero]
          rw [if_pos (by rfl)]
          go_simp
          refine hK.out _ _ ⟨_, rfl, HQ2.out⟩ (fun hHeld => ?_)
          clear hK K
          try simp only [Act.put, List.getElem_toArray, List.getElem_cons_succ, List.getElem_cons_zero, List.setIfInBounds_toArray, List.set_cons_zero, List.set_cons_succ]
          generalize Wq.setCell _ _ = Wqn at HQ2 hHeld ⊢
          clear c0 c1 c2 c3 c4 c5 c6 c7 z0 z1 z2 z3 z4 z6 z7 HQ hgT
          refine wpAnyH_take (i := 13) (oi := _) (v := ?_) rfl (by kernel_rfl) (by kernel_rfl) (by kernel_rfl) (fun _ _ _ h => h) (Or.inl ⟨by rfl, ?_⟩) (by assumption) ?_
          rotate_left
          · (intro W hSw; skip; go_simp; try with_reducible rfl)
          try simp only [Act.put, List.getElem_toArray, List.getElem_cons_succ, List.getElem_cons_zero, List.setIfInBounds_toArray, List.set_cons_zero, List.set_cons_succ]
          refine wpAnyH_done (by kernel_rfl) ?_ _
          clear hHeld
          obtain ⟨⟨c0, c1, c2, c3, c4, c5, c6, c7⟩, z0, z1, z2, z3, z4, z6, z7⟩ := HQ2.out.cells
          dsimp only at c0 c1 c2 c3 c4 c5 c6 c7
          go_wp2_with fail
          refine (St15.in_n_112 _).mono ?_
          rintro _ wq ⟨rfl, hq⟩
          obtain rfl := hq.symm
          clear hq
          have HE := Lib.hid (show strict (sp s.data.toList) = none by rw [strict_two (k := 5) HK.out (by decide) (show sp s.data.toList = _ by rw [← HXs.out]; exact two2 HM.out), show mxN 5 = 7 from rfl, hsn]; rfl)
          go_upto_region 28 with fail
          clear c0 c1 c2 c3 c4 c5 c6 c7 z0 z1 z2 z3 z4 z6 z7
          refine wp_region_held_drew (S := fun V => PG w V T g xs (⟨5, 0, 0, 0, 0, 0, 0, ⟨#[]⟩⟩ : St)) (by kernel_rfl) (HQ2.out.below (Below.refl _ _).drew) (fun hHeld => ?_)
          refine wpAnyH_take (i := 0) (oi := _) (v := ?_) rfl (by kernel_rfl) (by kernel_rfl) (by kernel_rfl) (fun _ _ _ h => h) (Or.inl ⟨by rfl, ?_⟩) (by assumption) ?_
          rotate_left
          · (intro W hSw; obtain ⟨⟨c0, c1, c2, c3, c4, c5, c6, c7⟩, _⟩ := PG.cells hSw; dsimp only at c0 c1 c2 c3 c4 c5 c6 c7; have hgT := PG.hT hSw; have hgw := PG.hg hSw; go_simp; try with_reducible rfl)
          try simp only [Act.put, List.getElem_toArray, List.getElem_cons_zero, List.setIfInBounds_toArray, List.set_cons_zero, List.set_cons_succ]
          refine wpAnyH_take (i := 1) (oi := _) (v := ?_) rfl (by kernel_rfl) (by kernel_rfl) (by kernel_rfl) (fun _ _ _ h => h) (Or.inl ⟨by rfl, ?_⟩) (by assumption) ?_
          rotate_left
          · (intro W hSw; obtain ⟨⟨c0, c1, c2, c3, c4, c5, c6, c7⟩, _⟩ := PG.cells hSw; dsimp only at c0 c1 c2 c3 c4 c5 c6 c7; have hgT := PG.hT hSw; have hgw := PG.hg hSw; go_simp; try with_reducible rfl)
          try simp only [Act.put, List.getElem_toArray, List.getElem_cons_succ, List.getElem_cons_zero, List.setIfInBounds_toArray, List.set_cons_zero, List.set_cons_succ]
          refine wpAnyH_take (i := 2) (oi := _) (v := ?_) rfl (by kernel_rfl) (by kernel_rfl) (by kernel_rfl) (fun _ _ _ h => h) (Or.inl ⟨by rfl, ?_⟩) (by assumption) ?_
          rotate_left
          · (intro W hSw; obtain ⟨⟨c0, c1, c2, c3, c4, c5, c6, c7⟩, _⟩ := PG.cells hSw; dsimp only at c0 c1 c2 c3 c4 c5 c6 c7; have hgT := PG.hT hSw; have hgw := PG.hg hSw; go_simp; try with_reducible rfl)
          try simp only [Act.put, List.getElem_toArray, List.getElem_cons_succ, List.getElem_cons_zero, List.setIfInBounds_toArray, List.set_cons_zero, List.set_cons_succ]
          refine wpAnyH_take (i := 3) (oi := _) (v := undef) rfl (by kernel_rfl) (by kernel_rfl) (by kernel_rfl) (fun _ _ _ h => h) (Or.inr ⟨by rfl, rfl⟩) (by assumption) ?_
          try simp only [Act.put, List.getElem_toArray, List.getElem_cons_succ, List.getElem_cons_zero, List.setIfInBounds_toArray, List.set_cons_zero, List.set_cons_succ]
          refine wpAnyH_take (i := 4) (oi := _) (v := undef) rfl (by kernel_rfl) (by kernel_rfl) (by kernel_rfl) (fun _ _ _ h => h) (Or.inr ⟨by rfl, rfl⟩) (by assumption) ?_
          try simp only [Act.put, List.getElem_toArray, List.getElem_cons_succ, List.getElem_cons_zero, List.setIfInBounds_toArray, List.set_cons_zero, List.set_cons_succ]
          refine wpAnyH_take (i := 5) (oi := _) (v := ?_) rfl (by kernel_rfl) (by kernel_rfl) (by kernel_rfl) (fun _ _ _ h => h) (Or.inl ⟨by rfl, ?_⟩) (by assumption) ?_
          rotate_left
          · (intro W hSw; obtain ⟨⟨c0, c1, c2, c3, c4, c5, c6, c7⟩, _⟩ := PG.cells hSw; dsimp only at c0 c1 c2 c3 c4 c5 c6 c7; have hgT := PG.hT hSw; have hgw := PG.hg hSw; go_simp; try with_reducible rfl)
          try simp only [Act.put, List.getElem_toArray, List.getElem_cons_succ, List.getElem_cons_zero, List.setIfInBounds_toArray, List.set_cons_zero, List.set_cons_succ]
          obtain ⟨y0, hy0⟩ := PG.r hHeld
          have HRr := Lib.hid (setRow_heap (Wqn.drew) w.heap.size _ (⟨5, 0, 0, 0, 0, 0, 0, ⟨#[]⟩⟩ : St).cells 26 (0, 0) hy0)
          refine wpAnyH_ready (rs := [6]) (by kernel_rfl) (by simp) ?_
          refine AllReadyH.cons rfl (fun K hK => ?_) AllReadyH.nil
          simp only [List.getElem_toArray, List.getElem_cons_succ, List.getElem_cons_zero]
          rw [if_pos (by rfl)]
          refine wp_store_row 26 _ _ rfl w.heap.size (⟨5, 0, 0, 0, 0, 0, 0, ⟨#[]⟩⟩ : St).cells rfl rfl 26 _ hy0 (hi8 (⟨5, 0, 0, 0, 0, 0, 0, ⟨#[]⟩⟩ : St)) rfl (cells8_one _) ?_
          refine hK.out _ _ (PG.setR hHeld) (fun hHeld => ?_)
          clear hK K
          try simp only [Act.put, List.setIfInBounds_toArray, List.set_cons_zero, List.set_cons_succ]
          refine wpAnyH_take (i := 7) (oi := _) (v := ?_) rfl (by kernel_rfl) (by kernel_rfl) (by kernel_rfl) (fun _ _ _ h => h) (Or.inl ⟨by rfl, ?_⟩) (by assumption) ?_
          rotate_left
          · (intro W hSw; skip; go_simp; try with_reducible rfl)
          try simp only [Act.put, List.getElem_toArray, List.getElem_cons_succ, List.getElem_cons_zero, List.setIfInBounds_toArray, List.set_cons_zero, List.set_cons_succ]
          refine wpAnyH_done (by kernel_rfl) ?_ _
          have hB9 := PG.b hHeld
          obtain ⟨W9, hW9⟩ : ∃ W9, W9 = (Wqn.drew).setRow w.heap.size (⟨5, 0, 0, 0, 0, 0, 0, ⟨#[]⟩⟩ : St).cells := ⟨_, rfl⟩
          have HR' := HRr.out
          rw [← hW9] at HR' hB9 ⊢
          clear hW9 hy0 hHeld HRr
          go_wp2_with fail
          exact bodyPost_ret (res8p _ _ w.heap.size (⟨5, 0, 0, 0, 0, 0, 0, ⟨#[]⟩⟩ : St) false rfl rfl HR') rfl ⟨.inr ⟨HE.out, (⟨5, 0, 0, 0, 0, 0, 0, ⟨#[]⟩⟩ : St), rfl⟩, hB9⟩
        | some un =>
          go_upto_region 20 with fail
          clear c0 c1 c2 c3 c4 c5 c6 c7 z0 z1 z2 z3 z4 z6 z7
          have HLt := Lib.hid (show 1 < xs.length by have := HM.out; omega)
          have HLi := Lib.hid (show (1 : Int) < (xs.length : Int) by have := HLt.out; omega)
          have HAt := Lib.hid (show (0 : Int) ≤ 1 by decide)
          have HQ := Lib.hid (HP3.out.below (Below.refl _ _).drew)
          refine wp_region_held_drew (S := fun V => ∃ yy : St, yy.k = 5 ∧ PG w V T g xs yy) (by kernel_rfl) ⟨_, rfl, HQ.out⟩ (fun hHeld => ?_)
          obtain ⟨Wq, hWq⟩ : ∃ Wq, Wq = w3.drew := ⟨_, rfl⟩
          rw [← hWq] at HQ hHeld ⊢
          clear hWq
          refine wpAnyH_take (i := 0) (oi := _) (v := ?_) rfl (by kernel_rfl) (by kernel_rfl) (by kernel_rfl) (fun _ _ _ h => h) (Or.inl ⟨by rfl, ?_⟩) (by assumption) ?_
          rotate_left
          · (intro W hSw; obtain ⟨yy, hyk, hSw⟩ := hSw; obtain ⟨⟨c0, c1, c2, c3, c4, c5, c6, c7⟩, z0, z1, z2, z3, z4, z6, z7⟩ := PG.cells hSw; rw [hyk] at c0; have hgT := PG.hT hSw; have wa := PG.row hSw 1 HLt.out; have hlt := HLt.out; have hlti := HLi.out; have hat := HAt.out; go_simp; try with_reducible rfl)
          try simp only [Act.put, List.getElem_toArray, List.getElem_cons_zero, List.setIfInBounds_toArray, List.set_cons_zero, List.set_cons_succ]
          refine wpAnyH_take (i := 1) (oi := _) (v := ?_) rfl (by kernel_rfl) (by kernel_rfl) (by kernel_rfl) (fun _ _ _ h => h) (Or.inl ⟨by rfl, ?_⟩) (by assumption) ?_
          rotate_left
          · (intro W hSw; obtain ⟨yy, hyk, hSw⟩ := hSw; obtain ⟨⟨c0, c1, c2, c3, c4, c5, c6, c7⟩, z0, z1, z2, z3, z4, z6, z7⟩ := PG.cells hSw; rw [hyk] at c0; have hgT := PG.hT hSw; have wa := PG.row hSw 1 HLt.out; have hlt := HLt.out; have hlti := HLi.out; have hat := HAt.out; go_simp; try with_reducible rfl)
          try simp only [Act.put, List.getElem_toArray, List.getElem_cons_succ, List.getElem_cons_zero, List.setIfInBounds_toArray, List.set_cons_zero, List.set_cons_succ]
          refine wpAnyH_take (i := 2) (oi := _) (v := ?_) rfl (by kernel_rfl) (by kernel_rfl) (by kernel_rfl) (fun _ _ _ h => h) (Or.inl ⟨by rfl, ?_⟩) (by assumption) ?_
          rotate_left
          · (intro W hSw; obtain ⟨yy, hyk, hSw⟩ := hSw; obtain ⟨⟨c0, c1, c2, c3, c4, c5, c6, c7⟩, z0, z1, z2, z3, z4, z6, z7⟩ := PG.cells hSw; rw [hyk] at c0; have hgT := PG.hT hSw; have wa := PG.row hSw 1 HLt.out; have hlt := HLt.out; have hlti := HLi.out; have hat := HAt.out; go_simp; try with_reducible rfl)
          try simp only [Act.put, List.getElem_toArray, List.getElem_cons_succ, List.getElem_cons_zero, List.setIfInBounds_toArray, List.set_cons_zero, List.set_cons_succ]
          refine wpAnyH_take (i := 3) (oi := _) (v := ?_) rfl (by kernel_rfl) (by kernel_rfl) (by kernel_rfl) (fun _ _ _ h => h) (Or.inl ⟨by rfl, ?_⟩) (by assumption) ?_
          rotate_left
          · (intro W hSw; obtain ⟨yy, hyk, hSw⟩ := hSw; obtain ⟨⟨c0, c1, c2, c3, c4, c5, c6, c7⟩, z0, z1, z2, z3, z4, z6, z7⟩ := PG.cells hSw; rw [hyk] at c0; have hgT := PG.hT hSw; have wa := PG.row hSw 1 HLt.out; have hlt := HLt.out; have hlti := HLi.out; have hat := HAt.out; go_simp; try with_reducible rfl)
          try simp only [Act.put, List.getElem_toArray, List.getElem_cons_succ, List.getElem_cons_zero, List.setIfInBounds_toArray, List.set_cons_zero, List.set_cons_succ]
          refine wpAnyH_take (i := 4) (oi := _) (v := ?_) rfl (by kernel_rfl) (by kernel_rfl) (by kernel_rfl) (fun _ _ _ h => h) (Or.inl ⟨by rfl, ?_⟩) (by assumption) ?_
          rotate_left
          · (intro W hSw; obtain ⟨yy, hyk, hSw⟩ := hSw; obtain ⟨⟨c0, c1, c2, c3, c4, c5, c6, c7⟩, z0, z1, z2, z3, z4, z6, z7⟩ := PG.cells hSw; rw [hyk] at c0; have hgT := PG.hT hSw; have wa := PG.row hSw 1 HLt.out; have hlt := HLt.out; have hlti := HLi.out; have hat := HAt.out; go_simp; try with_reducible rfl)
          try simp only [Act.put, List.getElem_toArray, List.getElem_cons_succ, List.getElem_cons_zero, List.setIfInBounds_toArray, List.set_cons_zero, List.set_cons_succ]
          refine wpAnyH_take (i := 5) (oi := _) (v := ?_) rfl (by kernel_rfl) (by kernel_rfl) (by kernel_rfl) (fun _ _ _ h => h) (Or.inl ⟨by rfl, ?_⟩) (by assumption) ?_
          rotate_left
          · (intro W hSw; obtain ⟨yy, hyk, hSw⟩ := hSw; obtain ⟨⟨c0, c1, c2, c3, c4, c5, c6, c7⟩, z0, z1, z2, z3, z4, z6, z7⟩ := PG.cells hSw; rw [hyk] at c0; have hgT := PG.hT hSw; have wa := PG.row hSw 1 HLt.out; have hlt := HLt.out; have hlti := HLi.out; have hat := HAt.out; go_simp; try with_reducible rfl)
          try simp only [Act.put, List.getElem_toArray, List.getElem_cons_succ, List.getElem_cons_zero, List.setIfInBounds_toArray, List.set_cons_zero, List.set_cons_succ]
          refine wpAnyH_ready (rs := [6]) (by kernel_rfl) (by simp) ?_
          refine AllReadyH.cons rfl (fun K hK => ?_) AllReadyH.nil
          simp only [List.getElem_toArray, List.getElem_cons_succ, List.getElem_cons_zero]
          rw [if_pos (by rfl)]
          go_simp
          refine (St15.most_5' _).mono ?_
          rintro _ wm ⟨rfl, hwm⟩
          obtain rfl := hwm.symm
          go_wp2_with fail
          refine hK.out _ _ hHeld (fun hHeld => ?_)
          clear hK K
          try simp only [Act.put, List.getElem_toArray, List.getElem_cons_succ, List.getElem_cons_zero, List.setIfInBounds_toArray, List.set_cons_zero, List.set_cons_succ]
          refine wpAnyH_ready (rs := [7]) (by kernel_rfl) (by simp) ?_
          refine AllReadyH.cons rfl (fun K hK => ?_) AllReadyH.nil
          simp only [List.getElem_toArray, List.getElem_cons_succ, List.getElem_cons_zero]
          rw [if_pos (by rfl)]
          go_simp
          refine (small_some (m := 7) hsn (by have := xs_sz HXs.out 1; have := HS.out; omega) (by decide) _).mono ?_
          rintro _ wm ⟨rfl, hwm2⟩
          obtain rfl := hwm2.symm
          go_wp2_with fail
          refine hK.out _ _ hHeld (fun hHeld => ?_)
          clear hK K
          try simp only [Act.put, List.getElem_toArray, List.getElem_cons_succ, List.getElem_cons_zero, List.setIfInBounds_toArray, List.set_cons_zero, List.set_cons_succ]
          refine wpAnyH_take (i := 8) (oi := _) (v := ?_) rfl (by kernel_rfl) (by kernel_rfl) (by kernel_rfl) (fun _ _ _ h => h) (Or.inl ⟨by rfl, ?_⟩) (by assumption) ?_
          rotate_left
          · (intro W hSw; obtain ⟨yy, hyk, hSw⟩ := hSw; obtain ⟨⟨c0, c1, c2, c3, c4, c5, c6, c7⟩, z0, z1, z2, z3, z4, z6, z7⟩ := PG.cells hSw; rw [hyk] at c0; have hgT := PG.hT hSw; have wa := PG.row hSw 1 HLt.out; have hlt := HLt.out; have hlti := HLi.out; have hat := HAt.out; go_simp; try with_reducible rfl)
          try simp only [Act.put, List.getElem_toArray, List.getElem_cons_succ, List.getElem_cons_zero, List.setIfInBounds_toArray, List.set_cons_zero, List.set_cons_succ]
          refine wpAnyH_take (i := 9) (oi := _) (v := ?_) rfl (by kernel_rfl) (by kernel_rfl) (by kernel_rfl) (fun _ _ _ h => h) (Or.inl ⟨by rfl, ?_⟩) (by assumption) ?_
          rotate_left
          · (intro W hSw; obtain ⟨yy, hyk, hSw⟩ := hSw; obtain ⟨⟨c0, c1, c2, c3, c4, c5, c6, c7⟩, z0, z1, z2, z3, z4, z6, z7⟩ := PG.cells hSw; rw [hyk] at c0; have hgT := PG.hT hSw; have wa := PG.row hSw 1 HLt.out; have hlt := HLt.out; have hlti := HLi.out; have hat := HAt.out; go_simp; try with_reducible rfl)
          try simp only [Act.put, List.getElem_toArray, List.getElem_cons_succ, List.getElem_cons_zero, List.setIfInBounds_toArray, List.set_cons_zero, List.set_cons_succ]
          refine wpAnyH_take (i := 10) (oi := _) (v := ?_) rfl (by kernel_rfl) (by kernel_rfl) (by kernel_rfl) (fun _ _ _ h => h) (Or.inl ⟨by rfl, ?_⟩) (by assumption) ?_
          rotate_left
          · (intro W hSw; obtain ⟨yy, hyk, hSw⟩ := hSw; obtain ⟨⟨c0, c1, c2, c3, c4, c5, c6, c7⟩, z0, z1, z2, z3, z4, z6, z7⟩ := PG.cells hSw; rw [hyk] at c0; have hgT := PG.hT hSw; have wa := PG.row hSw 1 HLt.out; have hlt := HLt.out; have hlti := HLi.out; have hat := HAt.out; go_simp; try with_reducible rfl)
          try simp only [Act.put, List.getElem_toArray, List.getElem_cons_succ, List.getElem_cons_zero, List.setIfInBounds_toArray, List.set_cons_zero, List.set_cons_succ]
          refine wpAnyH_take (i := 11) (oi := _) (v := ?_) rfl (by kernel_rfl) (by kernel_rfl) (by kernel_rfl) (fun _ _ _ h => h) (Or.inl ⟨by rfl, ?_⟩) (by assumption) ?_
          rotate_left
          · (intro W hSw; obtain ⟨yy, hyk, hSw⟩ := hSw; obtain ⟨⟨c0, c1, c2, c3, c4, c5, c6, c7⟩, z0, z1, z2, z3, z4, z6, z7⟩ := PG.cells hSw; rw [hyk] at c0; have hgT := PG.hT hSw; have wa := PG.row hSw 1 HLt.out; have hlt := HLt.out; have hlti := HLi.out; have hat := HAt.out; go_simp; try with_reducible rfl)
          try simp only [Act.put, List.getElem_toArray, List.getElem_cons_succ, List.getElem_cons_zero, List.setIfInBounds_toArray, List.set_cons_zero, List.set_cons_succ]
          obtain ⟨⟨c0, c1, c2, c3, c4, c5, c6, c7⟩, z0, z1, z2, z3, z4, z6, z7⟩ := HQ.out.cells
          have hgT := HQ.out.hT
          have HQ2 := Lib.hid (HQ.out.set (x' := (⟨5, 0, (un : Int), 0, 0, 0, 0, ⟨#[]⟩⟩ : St)) 2 (.int .i64 (un : Int)) rfl)
          refine wpAnyH_ready (rs := [12]) (by kernel_rfl) (by simp) ?_
          refine AllReadyH.cons rfl (fun K hK => ?_) AllReadyH.nil
          simp only [List.getElem_toArray, List.getElem_cons_succ, List.getElem_cons_zero]
          rw [if_pos (by rfl)]
          go_simp
          refine hK.out _ _ ⟨_, rfl, HQ2.out⟩ (fun hHeld => ?_)
          clear hK K
          try simp only [Act.put, List.getElem_toArray, List.getElem_cons_succ, List.getElem_cons_zero, List.setIfInBounds_toArray, List.set_cons_zero, List.set_cons_succ]
          generalize Wq.setCell _ _ = Wqs at HQ2 hHeld ⊢
          clear c0 c1 c2 c3 c4 c5 c6 c7 z0 z1 z2 z3 z4 z6 z7 HQ hgT
          refine wpAnyH_take (i := 13) (oi := _) (v := ?_) rfl (by kernel_rfl) (by kernel_rfl) (by kernel_rfl) (fun _ _ _ h => h) (Or.inl ⟨by rfl, ?_⟩) (by assumption) ?_
          rotate_left
          · (intro W hSw; skip; go_simp; try with_reducible rfl)
          try simp only [Act.put, List.getElem_toArray, List.getElem_cons_succ, List.getElem_cons_zero, List.setIfInBounds_toArray, List.set_cons_zero, List.set_cons_succ]
          refine wpAnyH_done (by kernel_rfl) ?_ _
          clear hHeld
          obtain ⟨⟨c0, c1, c2, c3, c4, c5, c6, c7⟩, z0, z1, z2, z3, z4, z6, z7⟩ := HQ2.out.cells
          dsimp only at c0 c1 c2 c3 c4 c5 c6 c7
          have hun := (sm_some hsn).1
          go_wp2_with fail
          refine (St15.in_n_112 _).mono ?_
          rintro _ wq ⟨rfl, hq⟩
          obtain rfl := hq.symm
          clear hq
          have HE := Lib.hid (show strict (sp s.data.toList) = some (⟨5, 0, (un : Int), 0, 0, 0, 0, ⟨#[]⟩⟩ : St) by rw [strict_two (k := 5) HK.out (by decide) (show sp s.data.toList = _ by rw [← HXs.out]; exact two2 HM.out), show mxN 5 = 7 from rfl, hsn]; rfl)
          go_upto_region 28 with fail
          clear c0 c1 c2 c3 c4 c5 c6 c7 z0 z1 z2 z3 z4 z6 z7
          refine wp_region_held_drew (S := fun V => PG w V T g xs (⟨5, 0, (un : Int), 0, 0, 0, 0, ⟨#[]⟩⟩ : St)) (by kernel_rfl) (HQ2.out.below (Below.refl _ _).drew) (fun hHeld => ?_)
          refine wpAnyH_take (i := 0) (oi := _) (v := ?_) rfl (by kernel_rfl) (by kernel_rfl) (by kernel_rfl) (fun _ _ _ h => h) (Or.inl ⟨by rfl, ?_⟩) (by assumption) ?_
          rotate_left
          · (intro W hSw; obtain ⟨⟨c0, c1, c2, c3, c4, c5, c6, c7⟩, _⟩ := PG.cells hSw; dsimp only at c0 c1 c2 c3 c4 c5 c6 c7; have hgT := PG.hT hSw; have hgw := PG.hg hSw; go_simp; try with_reducible rfl)
          try simp only [Act.put, List.getElem_toArray, List.getElem_cons_zero, List.setIfInBounds_toArray, List.set_cons_zero, List.set_cons_succ]
          refine wpAnyH_take (i := 1) (oi := _) (v := ?_) rfl (by kernel_rfl) (by kernel_rfl) (by kernel_rfl) (fun _ _ _ h => h) (Or.inl ⟨by rfl, ?_⟩) (by assumption) ?_
          rotate_left
          · (intro W hSw; obtain ⟨⟨c0, c1, c2, c3, c4, c5, c6, c7⟩, _⟩ := PG.cells hSw; dsimp only at c0 c1 c2 c3 c4 c5 c6 c7; have hgT := PG.hT hSw; have hgw := PG.hg hSw; go_simp; try with_reducible rfl)
          try simp only [Act.put, List.getElem_toArray, List.getElem_cons_succ, List.getElem_cons_zero, List.setIfInBounds_toArray, List.set_cons_zero, List.set_cons_succ]
          refine wpAnyH_take (i := 2) (oi := _) (v := ?_) rfl (by kernel_rfl) (by kernel_rfl) (by kernel_rfl) (fun _ _ _ h => h) (Or.inl ⟨by rfl, ?_⟩) (by assumption) ?_
          rotate_left
          · (intro W hSw; obtain ⟨⟨c0, c1, c2, c3, c4, c5, c6, c7⟩, _⟩ := PG.cells hSw; dsimp only at c0 c1 c2 c3 c4 c5 c6 c7; have hgT := PG.hT hSw; have hgw := PG.hg hSw; go_simp; try with_reducible rfl)
          try simp only [Act.put, List.getElem_toArray, List.getElem_cons_succ, List.getElem_cons_zero, List.setIfInBounds_toArray, List.set_cons_zero, List.set_cons_succ]
          refine wpAnyH_take (i := 3) (oi := _) (v := ?_) rfl (by kernel_rfl) (by kernel_rfl) (by kernel_rfl) (fun _ _ _ h => h) (Or.inl ⟨by rfl, ?_⟩) (by assumption) ?_
          rotate_left
          · (intro W hSw; obtain ⟨⟨c0, c1, c2, c3, c4, c5, c6, c7⟩, _⟩ := PG.cells hSw; dsimp only at c0 c1 c2 c3 c4 c5 c6 c7; have hgT := PG.hT hSw; have hgw := PG.hg hSw; go_simp; try with_reducible rfl)
          try simp only [Act.put, List.getElem_toArray, List.getElem_cons_succ, List.getElem_cons_zero, List.setIfInBounds_toArray, List.set_cons_zero, List.set_cons_succ]
          refine wpAnyH_ready (rs := [4]) (by kernel_rfl) (by simp) ?_
          refine AllReadyH.cons rfl (fun K hK => ?_) AllReadyH.nil
          simp only [List.getElem_toArray, List.getElem_cons_succ, List.getElem_cons_zero]
          rw [if_pos (by rfl)]
          go_simp
          refine (St15.right_5 (un : Int) (by omega) (by omega) _).mono ?_
          rintro _ wr1 ⟨rfl, br1⟩
          go_wp2_with fail
          refine hK.out _ _ (PG.below hHeld br1) (fun hHeld => ?_)
          clear hK K
          try simp only [Act.put, List.getElem_toArray, List.getElem_cons_succ, List.getElem_cons_zero, List.setIfInBounds_toArray, List.set_cons_zero, List.set_cons_succ]
          refine wpAnyH_take (i := 5) (oi := _) (v := ?_) rfl (by kernel_rfl) (by kernel_rfl) (by kernel_rfl) (fun _ _ _ h => h) (Or.inl ⟨by rfl, ?_⟩) (by assumption) ?_
          rotate_left
          · (intro W hSw; obtain ⟨⟨c0, c1, c2, c3, c4, c5, c6, c7⟩, _⟩ := PG.cells hSw; dsimp only at c0 c1 c2 c3 c4 c5 c6 c7; have hgT := PG.hT hSw; have hgw := PG.hg hSw; go_simp; try with_reducible rfl)
          try simp only [Act.put, List.getElem_toArray, List.getElem_cons_succ, List.getElem_cons_zero, List.setIfInBounds_toArray, List.set_cons_zero, List.set_cons_succ]
          obtain ⟨y0, hy0⟩ := PG.r hHeld
          have HRr := Lib.hid (setRow_heap (wr1) w.heap.size _ (⟨5, 0, (un : Int), 0, 0, 0, 0, ⟨#[]⟩⟩ : St).cells 26 (0, 0) hy0)
          refine wpAnyH_ready (rs := [6]) (by kernel_rfl) (by simp) ?_
          refine AllReadyH.cons rfl (fun K hK => ?_) AllReadyH.nil
          simp only [List.getElem_toArray, List.getElem_cons_succ, List.getElem_cons_zero]
          rw [if_pos (by rfl)]
          refine wp_store_row 26 _ _ rfl w.heap.size (⟨5, 0, (un : Int), 0, 0, 0, 0, ⟨#[]⟩⟩ : St).cells rfl rfl 26 _ hy0 (hi8 (⟨5, 0, (un : Int), 0, 0, 0, 0, ⟨#[]⟩⟩ : St)) rfl (cells8_one _) ?_
          refine hK.out _ _ (PG.setR hHeld) (fun hHeld => ?_)
          clear hK K
          try simp only [Act.put, List.setIfInBounds_toArray, List.set_cons_zero, List.set_cons_succ]
          refine wpAnyH_take (i := 7) (oi := _) (v := ?_) rfl (by kernel_rfl) (by kernel_rfl) (by kernel_rfl) (fun _ _ _ h => h) (Or.inl ⟨by rfl, ?_⟩) (by assumption) ?_
          rotate_left
          · (intro W hSw; skip; go_simp; try with_reducible rfl)
          try simp only [Act.put, List.getElem_toArray, List.getElem_cons_succ, List.getElem_cons_zero, List.setIfInBounds_toArray, List.set_cons_zero, List.set_cons_succ]
          refine wpAnyH_done (by kernel_rfl) ?_ _
          have hB9 := PG.b hHeld
          obtain ⟨W9, hW9⟩ : ∃ W9, W9 = (wr1).setRow w.heap.size (⟨5, 0, (un : Int), 0, 0, 0, 0, ⟨#[]⟩⟩ : St).cells := ⟨_, rfl⟩
          have HR' := HRr.out
          rw [← hW9] at HR' hB9 ⊢
          clear hW9 hy0 hHeld HRr
          go_wp2_with fail
          exact bodyPost_ret (res8p _ _ w.heap.size (⟨5, 0, (un : Int), 0, 0, 0, 0, ⟨#[]⟩⟩ : St) true rfl rfl HR') rfl ⟨.inl ⟨(⟨5, 0, (un : Int), 0, 0, 0, 0, ⟨#[]⟩⟩ : St), HE.out, rfl⟩, hB9⟩
      · have hm1 : ((xs.length : Int) == 2) = false := by rw [beq_eq_false_iff_ne]; omega
        have hm2 : ((xs.length : Int) != 2) = true := by rw [bne_iff_ne]; omega
        have HE := Lib.hid (strict_many HK.out (by decide) (show (sp s.data.toList).length ≠ manyK 5 by rw [← HXs.out, List.length_map]; exact hm))
        clear hm
        go_upto_region 13 with fail
        refine wp_region_lit ?_
        refine wpList_load_row rfl 26 _ rfl T rfl 26 (⟨5, 0, 0, 0, 0, 0, 0, ⟨#[]⟩⟩ : St).cells (0, 0) _ HP3.out.t Tryz.underlying26 rfl (hi8 (⟨5, 0, 0, 0, 0, 0, 0, ⟨#[]⟩⟩ : St)) ?_
        obtain ⟨y0, hy0⟩ := HP3.out.r
        refine wpList_store_rowTo rfl 26 _ _ rfl rfl w.heap.size (⟨5, 0, 0, 0, 0, 0, 0, ⟨#[]⟩⟩ : St).cells rfl rfl 26 _ hy0 (hi8 (⟨5, 0, 0, 0, 0, 0, 0, ⟨#[]⟩⟩ : St)) rfl (cells8_one _) ?_
        have HR' := setRow_heap w3 w.heap.size _ (⟨5, 0, 0, 0, 0, 0, 0, ⟨#[]⟩⟩ : St).cells 26 (0, 0) hy0
        have hB9 := (HP3.out.setR (y := (⟨5, 0, 0, 0, 0, 0, 0, ⟨#[]⟩⟩ : St))).b
        obtain ⟨W9, hW9⟩ : ∃ W9, W9 = w3.setRow w.heap.size (⟨5, 0, 0, 0, 0, 0, 0, ⟨#[]⟩⟩ : St).cells := ⟨_, rfl⟩
        rw [← hW9] at HR' hB9 ⊢
        clear hW9 hy0
        go_wp2_with fail
        exact bodyPost_ret (res8p _ _ w.heap.size (⟨5, 0, 0, 0, 0, 0, 0, ⟨#[]⟩⟩ : St) false rfl rfl HR') rfl ⟨.inr ⟨HE.out, (⟨5, 0, 0, 0, 0, 0, 0, ⟨#[]⟩⟩ : St), rfl⟩, hB9⟩

set_option maxHeartbeats 4000000 in
set_option maxRecDepth 100000 in
theorem rparse_6 (s : ByteArray) (hs : s.size ≤ 2000) (hk : kL ((sp s.data.toList).getD 0 []) = 6) (w : World) : Calls Tryz.prog 66 #[.string s] w fun e w' => pP s.data.toList e ∧ Below w.heap.size w w' := by
  have HS := Lib.hid hs
  have HK := Lib.hid hk
  clear hs hk
  go_enter Tryz.func66, Tryz.ntmps66
  go_wp2_with fail
  refine (words_any s (by have := HS.out; omega) _).mono ?_
  rintro _ w1 ⟨⟨v, xs, rfl, hown, hxs⟩, hb1⟩
  have hxn : xs ≠ [] := fun e => sp_ne s.data.toList (by rw [← hxs, e]; rfl)
  have HXn := Lib.hid hxn
  have HXs := Lib.hid hxs
  simp only [World.size_alloc] at hown
  obtain ⟨g, cap, rfl, hpg⟩ := PG.start (w := w) hb1 hown hxn
  have HP := Lib.hid hpg
  have HN := Lib.hid (List.length_pos_iff.2 hxn)
  have H0 : Hid (kL (gx xs 0).data.toList = 6) := Lib.hid (by
    have e : (gx xs 0).data.toList = (sp s.data.toList).getD 0 [] := by
      unfold gx
      rw [← hxs, List.getD_eq_getElem?_getD, List.getD_eq_getElem?_getD, List.getElem?_map]
      cases hx : xs[0]? with
      | none => exact absurd (List.getElem?_eq_none_iff.1 hx) (by have := HN.out; omega)
      | some a => rfl
    rw [e]; exact HK.out)
  clear hown hb1 hpg hxn hxs
  obtain ⟨T, hT⟩ : ∃ T, w1.heap.size = T := ⟨_, rfl⟩
  go_upto_region 3 with fail
  rw [hT] at HP
  obtain ⟨W2, hW2⟩ : ∃ W2, W2 = w1.alloc (.cells St0.cells 26) := ⟨_, rfl⟩
  have HP2 : Hid (PG w W2 T g xs St0) := by rw [hW2]; exact HP
  rw [show w1.alloc (.cells #[.int .i64 0, .int .i64 0, .int .i64 0, .int .i64 0, .int .i64 0, .int .u64 0, .int .u64 0, .string ⟨#[]⟩] 26) = W2 from hW2.symm]
  have hn0 : (0 : Int) < (xs.length : Int) := by have := HN.out; omega
  clear hW2 HP hT
  go_wp2_with fail
  go_loopw [6] (fun i wr => ∃ kq : Nat, i = .int .i64 (kq : Int) ∧ 1 ≤ kq ∧ kq ≤ 9 ∧ Hid (PG w wr T g xs (stK (kx 6 kq)))) (fun i _ => 9 - (RowKit.intOf i).toNat)
  case atStart => exact ⟨1, rfl, by omega, by omega, HP2⟩
  case round =>
    obtain ⟨kq, rfl, hk1, hk9, HP⟩ := hrel
    clear HP2
    by_cases h8 : kq ≤ 8
    · have hk8 : (kq : Int) ≤ 8 := by omega
      have hk0 : (0 : Int) ≤ (kq : Int) := by omega
      go_upto_region 6 with fail
      refine wp_region_held_drew (S := fun V => PG w V T g xs (stK (kx 6 kq))) (by kernel_rfl) (HP.out.below (Below.refl _ _).drew) (fun hHeld => ?_)
      refine wpAnyH_take (i := 0) (oi := _) (v := ?_) rfl (by kernel_rfl) (by kernel_rfl) (by kernel_rfl) (fun _ _ _ h => h) (Or.inl ⟨by rfl, ?_⟩) (by assumption) ?_
      rotate_left
      · (intro W hSw; obtain ⟨⟨c0, c1, c2, c3, c4, c5, c6, c7⟩, _⟩ := PG.cells hSw; have w0 := PG.row hSw 0 HN.out; have hn0n := HN.out; go_simp; try with_reducible rfl)
      try simp only [Act.put, List.getElem_toArray, List.getElem_cons_zero, List.setIfInBounds_toArray, List.set_cons_zero, List.set_cons_succ]
      refine wpAnyH_take (i := 2) (oi := _) (v := ?_) rfl (by kernel_rfl) (by kernel_rfl) (by kernel_rfl) (fun _ _ _ h => h) (Or.inl ⟨by rfl, ?_⟩) (by assumption) ?_
      rotate_left
      · (intro W hSw; obtain ⟨⟨c0, c1, c2, c3, c4, c5, c6, c7⟩, _⟩ := PG.cells hSw; have w0 := PG.row hSw 0 HN.out; have hn0n := HN.out; go_simp; try with_reducible rfl)
      try simp only [Act.put, List.getElem_toArray, List.getElem_cons_succ, List.getElem_cons_zero, List.setIfInBounds_toArray, List.set_cons_zero, List.set_cons_succ]
      refine wpAnyH_take (i := 3) (oi := _) (v := ?_) rfl (by kernel_rfl) (by kernel_rfl) (by kernel_rfl) (fun _ _ _ h => h) (Or.inl ⟨by rfl, ?_⟩) (by assumption) ?_
      rotate_left
      · (intro W hSw; obtain ⟨⟨c0, c1, c2, c3, c4, c5, c6, c7⟩, _⟩ := PG.cells hSw; have w0 := PG.row hSw 0 HN.out; have hn0n := HN.out; go_simp; try with_reducible rfl)
      try simp only [Act.put, List.getElem_toArray, List.getElem_cons_succ, List.getElem_cons_zero, List.setIfInBounds_toArray, List.set_cons_zero, List.set_cons_succ]
      refine wpAnyH_take (i := 4) (oi := _) (v := ?_) rfl (by kernel_rfl) (by kernel_rfl) (by kernel_rfl) (fun _ _ _ h => h) (Or.inl ⟨by rfl, ?_⟩) (by assumption) ?_
      rotate_left
      · (intro W hSw; obtain ⟨⟨c0, c1, c2, c3, c4, c5, c6, c7⟩, _⟩ := PG.cells hSw; have w0 := PG.row hSw 0 HN.out; have hn0n := HN.out; go_simp; try with_reducible rfl)
      try simp only [Act.put, List.getElem_toArray, List.getElem_cons_succ, List.getElem_cons_zero, List.setIfInBounds_toArray, List.set_cons_zero, List.set_cons_succ]
      refine wpAnyH_ready (rs := [1]) (by kernel_rfl) (by simp) ?_
      refine AllReadyH.cons rfl (fun K hK => ?_) AllReadyH.nil
      simp only [List.getElem_toArray, List.getElem_cons_succ, List.getElem_cons_zero]
      rw [if_pos (by rfl)]
      go_simp
      refine (rword_any kq hk1 h8 _).mono ?_
      rintro _ wb ⟨rfl, hb⟩
      go_wp2_with fail
      refine hK.out _ _ (PG.below hHeld hb) (fun hHeld => ?_)
      clear hK K
      try simp only [Act.put, List.getElem_toArray, List.getElem_cons_succ, List.getElem_cons_zero, List.setIfInBounds_toArray, List.set_cons_zero, List.set_cons_succ]
      refine wpAnyH_take (i := 5) (oi := _) (v := ?_) rfl (by kernel_rfl) (by kernel_rfl) (by kernel_rfl) (fun _ _ _ h => h) (Or.inl ⟨by rfl, ?_⟩) (by assumption) ?_
      rotate_left
      · (intro W hSw; obtain ⟨⟨c0, c1, c2, c3, c4, c5, c6, c7⟩, _⟩ := PG.cells hSw; have w0 := PG.row hSw 0 HN.out; have hn0n := HN.out; go_simp; try with_reducible rfl)
      try simp only [Act.put, List.getElem_toArray, List.getElem_cons_succ, List.getElem_cons_zero, List.setIfInBounds_toArray, List.set_cons_zero, List.set_cons_succ]
      refine wpAnyH_done (by kernel_rfl) ?_ _
      have HPb := Lib.hid hHeld
      clear hHeld HP
      by_cases he : kq = 6
      · subst he
        have e1 : ((wdB 6).toList == (gx xs 0).toList) = true := by
          rw [beq_iff_eq, ByteArray.toList_eq, ByteArray.toList_eq, wd_kL H0.out (by decide)]; rfl
        rw [e1]
        clear e1
        obtain ⟨⟨c0, c1, c2, c3, c4, c5, c6, c7⟩, z0, z1, z2, z3, z4, z6, z7⟩ := HPb.out.cells
        have hgT := HPb.out.hT
        clear hk1 hk9 h8 hk8 hk0
        go_wp2
        go_roundw
        case rel => exact ⟨6 + 1, by go_num, by omega, by omega, Lib.hid (HPb.out.set 0 _ rfl)⟩
        case measure => simp [RowKit.intOf]
      have e1 : ((wdB kq).toList == (gx xs 0).toList) = false := tl_ne fun e => he (by
        have := H0.out
        rw [← e] at this
        exact (kL_first hk1 h8 (by simp [wdB])).symm.trans this)
      rw [← kx_ne he] at HPb
      have HE9 := Lib.hid (And.intro hk1 h8)
      clear he hk1 hk9 h8
      rw [e1]
      clear e1
      go_wp2
      go_roundw
      case rel => exact ⟨kq + 1, by go_num, by omega, by have := HE9.out; omega, HPb⟩
      case measure => have := HE9.out; simp [RowKit.intOf]; omega
    · obtain rfl : kq = 9 := by omega
      rw [show stK (kx 6 9) = (⟨6, 0, 0, 0, 0, 0, 0, ⟨#[]⟩⟩ : St) from rfl] at HP
      clear h8 hk1 hk9
      obtain ⟨⟨c0, c1, c2, c3, c4, c5, c6, c7⟩, z0, z1, z2, z3, z4, z6, z7⟩ := HP.out.cells
      dsimp only at c0 c1 c2 c3 c4 c5 c6 c7
      go_wp2_with fail
      refine (St15.has_6 _).mono ?_
      rintro _ w3 ⟨rfl, hb3⟩
      have HP3 := Lib.hid (HP.out.below hb3)
      clear hb3 HP
      clear c0 c1 c2 c3 c4 c5 c6 c7 z0 z1 z2 z3 z4 z6 z7
      obtain ⟨⟨c0, c1, c2, c3, c4, c5, c6, c7⟩, z0, z1, z2, z3, z4, z6, z7⟩ := HP3.out.cells
      dsimp only at c0 c1 c2 c3 c4 c5 c6 c7
      go_wp2_with fail
      refine (St15.in_sn_112 _).mono ?_
      rintro _ wq ⟨rfl, hq⟩
      obtain rfl := hq.symm
      clear hq
      by_cases hm : xs.length = 3
      · have hm1 : ((xs.length : Int) == 3) = true := by rw [hm]; rfl
        have hm2 : ((xs.length : Int) != 3) = false := by rw [hm]; rfl
        have HM := Lib.hid hm
        clear hm
        go_wp2_with fail
        refine (St15.in_sn_115 _).mono ?_
        rintro _ wq ⟨rfl, hq⟩
        obtain rfl := hq.symm
        clear hq
        cases hss : sm (gx xs 1).data.toList 1 with
        | none =>
          have w1 := HP3.out.row 1 (by have := HM.out; omega)
          have hl0 : 1 < xs.length := by have := HM.out; omega
          have hl1 : (1 : Int) < (xs.length : Int) := by omega
          have hgT := HP3.out.hT
          go_wp2_with fail
          refine (small_none (m := 1) hss (by have := xs_sz HXs.out 1; have := HS.out; omega) (by decide) _).mono ?_
          rintro _ wq ⟨rfl, hq⟩
          obtain rfl := hq.symm
          clear hq
          go_upto_region 18 with fail
          have HQs := Lib.hid (HP3.out.set (x' := (⟨6, 0, 0, 0, 0, 0, 0, ⟨#[]⟩⟩ : St)) 1 (.int .i64 0) rfl)
          generalize w3.setCell ⟨T, 1, none⟩ (.int .i64 0) = Wsn at HQs ⊢
          clear c0 c1 c2 c3 c4 c5 c6 c7 z0 z1 z2 z3 z4 z6 z7 w1 hl0 hl1 hgT
          obtain ⟨⟨c0, c1, c2, c3, c4, c5, c6, c7⟩, z0, z1, z2, z3, z4, z6, z7⟩ := HQs.out.cells
          dsimp only at c0 c1 c2 c3 c4 c5 c6 c7
          go_wp2_with fail
          refine (St15.in_sn_112 _).mono ?_
          rintro _ wq ⟨rfl, hq⟩
          obtain rfl := hq.symm
          clear hq
          have HE := Lib.hid (show strict (sp s.data.toList) = none by rw [strict_three HK.out (show sp s.data.toList = _ by rw [← HXs.out]; exact three3 HM.out), hss]; rfl)
          go_upto_region 28 with fail
          clear c0 c1 c2 c3 c4 c5 c6 c7 z0 z1 z2 z3 z4 z6 z7
          refine wp_region_held_drew (S := fun V => PG w V T g xs (⟨6, 0, 0, 0, 0, 0, 0, ⟨#[]⟩⟩ : St)) (by kernel_rfl) (HQs.out.below (Below.refl _ _).drew) (fun hHeld => ?_)
          refine wpAnyH_take (i := 0) (oi := _) (v := ?_) rfl (by kernel_rfl) (by kernel_rfl) (by kernel_rfl) (fun _ _ _ h => h) (Or.inl ⟨by rfl, ?_⟩) (by assumption) ?_
          rotate_left
          · (intro W hSw; obtain ⟨⟨c0, c1, c2, c3, c4, c5, c6, c7⟩, _⟩ := PG.cells hSw; dsimp only at c0 c1 c2 c3 c4 c5 c6 c7; have hgT := PG.hT hSw; have hgw := PG.hg hSw; go_simp; try with_reducible rfl)
          try simp only [Act.put, List.getElem_toArray, List.getElem_cons_zero, List.setIfInBounds_toArray, List.set_cons_zero, List.set_cons_succ]
          refine wpAnyH_take (i := 1) (oi := _) (v := ?_) rfl (by kernel_rfl) (by kernel_rfl) (by kernel_rfl) (fun _ _ _ h => h) (Or.inl ⟨by rfl, ?_⟩) (by assumption) ?_
          rotate_left
          · (intro W hSw; obtain ⟨⟨c0, c1, c2, c3, c4, c5, c6, c7⟩, _⟩ := PG.cells hSw; dsimp only at c0 c1 c2 c3 c4 c5 c6 c7; have hgT := PG.hT hSw; have hgw := PG.hg hSw; go_simp; try with_reducible rfl)
          try simp only [Act.put, List.getElem_toArray, List.getElem_cons_succ, List.getElem_cons_zero, List.setIfInBounds_toArray, List.set_cons_zero, List.set_cons_succ]
          refine wpAnyH_take (i := 2) (oi := _) (v := ?_) rfl (by kernel_rfl) (by kernel_rfl) (by kernel_rfl) (fun _ _ _ h => h) (Or.inl ⟨by rfl, ?_⟩) (by assumption) ?_
          rotate_left
          · (intro W hSw; obtain ⟨⟨c0, c1, c2, c3, c4, c5, c6, c7⟩, _⟩ := PG.cells hSw; dsimp only at c0 c1 c2 c3 c4 c5 c6 c7; have hgT := PG.hT hSw; have hgw := PG.hg hSw; go_simp; try with_reducible rfl)
          try simp only [Act.put, List.getElem_toArray, List.getElem_cons_succ, List.getElem_cons_zero, List.setIfInBounds_toArray, List.set_cons_zero, List.set_cons_succ]
          refine wpAnyH_take (i := 3) (oi := _) (v := undef) rfl (by kernel_rfl) (by kernel_rfl) (by kernel_rfl) (fun _ _ _ h => h) (Or.inr ⟨by rfl, rfl⟩) (by assumption) ?_
          try simp only [Act.put, List.getElem_toArray, List.getElem_cons_succ, List.getElem_cons_zero, List.setIfInBounds_toArray, List.set_cons_zero, List.set_cons_succ]
          refine wpAnyH_take (i := 4) (oi := _) (v := undef) rfl (by kernel_rfl) (by kernel_rfl) (by kernel_rfl) (fun _ _ _ h => h) (Or.inr ⟨by rfl, rfl⟩) (by assumption) ?_
          try simp only [Act.put, List.getElem_toArray, List.getElem_cons_succ, List.getElem_cons_zero, List.setIfInBounds_toArray, List.set_cons_zero, List.set_cons_succ]
          refine wpAnyH_take (i := 5) (oi := _) (v := ?_) rfl (by kernel_rfl) (by kernel_rfl) (by kernel_rfl) (fun _ _ _ h => h) (Or.inl ⟨by rfl, ?_⟩) (by assumption) ?_
          rotate_left
          · (intro W hSw; obtain ⟨⟨c0, c1, c2, c3, c4, c5, c6, c7⟩, _⟩ := PG.cells hSw; dsimp only at c0 c1 c2 c3 c4 c5 c6 c7; have hgT := PG.hT hSw; have hgw := PG.hg hSw; go_simp; try with_reducible rfl)
          try simp only [Act.put, List.getElem_toArray, List.getElem_cons_succ, List.getElem_cons_zero, List.setIfInBounds_toArray, List.set_cons_zero, List.set_cons_succ]
          obtain ⟨y0, hy0⟩ := PG.r hHeld
          have HRr := Lib.hid (setRow_heap (Wsn.drew) w.heap.size _ (⟨6, 0, 0, 0, 0, 0, 0, ⟨#[]⟩⟩ : St).cells 26 (0, 0) hy0)
          refine wpAnyH_ready (rs := [6]) (by kernel_rfl) (by simp) ?_
          refine AllReadyH.cons rfl (fun K hK => ?_) AllReadyH.nil
          simp only [List.getElem_toArray, List.getElem_cons_succ, List.getElem_cons_zero]
          rw [if_pos (by rfl)]
          refine wp_store_row 26 _ _ rfl w.heap.size (⟨6, 0, 0, 0, 0, 0, 0, ⟨#[]⟩⟩ : St).cells rfl rfl 26 _ hy0 (hi8 (⟨6, 0, 0, 0, 0, 0, 0, ⟨#[]⟩⟩ : St)) rfl (cells8_one _) ?_
          refine hK.out _ _ (PG.setR hHeld) (fun hHeld => ?_)
          clear hK K
          try simp only [Act.put, List.setIfInBounds_toArray, List.set_cons_zero, List.set_cons_succ]
          refine wpAnyH_take (i := 7) (oi := _) (v := ?_) rfl (by kernel_rfl) (by kernel_rfl) (by kernel_rfl) (fun _ _ _ h => h) (Or.inl ⟨by rfl, ?_⟩) (by assumption) ?_
          rotate_left
          · (intro W hSw; skip; go_simp; try with_reducible rfl)
          try simp only [Act.put, List.getElem_toArray, List.getElem_cons_succ, List.getElem_cons_zero, List.setIfInBounds_toArray, List.set_cons_zero, List.set_cons_succ]
          refine wpAnyH_done (by kernel_rfl) ?_ _
          have hB9 := PG.b hHeld
          obtain ⟨W9, hW9⟩ : ∃ W9, W9 = (Wsn.drew).setRow w.heap.size (⟨6, 0, 0, 0, 0, 0, 0, ⟨#[]⟩⟩ : St).cells := ⟨_, rfl⟩
          have HR' := HRr.out
          rw [← hW9] at HR' hB9 ⊢
          clear hW9 hy0 hHeld HRr
          go_wp2_with fail
          exact bodyPost_ret (res8p _ _ w.heap.size (⟨6, 0, 0, 0, 0, 0, 0, ⟨#[]⟩⟩ : St) false rfl rfl HR') rfl ⟨.inr ⟨HE.out, (⟨6, 0, 0, 0, 0, 0, 0, ⟨#[]⟩⟩ : St), rfl⟩, hB9⟩
        | some us =>
          have w1 := HP3.out.row 1 (by have := HM.out; omega)
          have hl0 : 1 < xs.length := by have := HM.out; omega
          have hl1 : (1 : Int) < (xs.length : Int) := by omega
          have hgT := HP3.out.hT
          go_wp2_with fail
          refine (small_some (m := 1) hss (by have := xs_sz HXs.out 1; have := HS.out; omega) (by decide) _).mono ?_
          rintro _ wq ⟨rfl, hq⟩
          obtain rfl := hq.symm
          clear hq
          go_upto_region 18 with fail
          have HQs := Lib.hid (HP3.out.set (x' := (⟨6, (us : Int), 0, 0, 0, 0, 0, ⟨#[]⟩⟩ : St)) 1 (.int .i64 (us : Int)) rfl)
          generalize w3.setCell ⟨T, 1, none⟩ (.int .i64 (us : Int)) = Wss at HQs ⊢
          clear c0 c1 c2 c3 c4 c5 c6 c7 z0 z1 z2 z3 z4 z6 z7 w1 hl0 hl1 hgT
          obtain ⟨⟨c0, c1, c2, c3, c4, c5, c6, c7⟩, z0, z1, z2, z3, z4, z6, z7⟩ := HQs.out.cells
          dsimp only at c0 c1 c2 c3 c4 c5 c6 c7
          have hus := (sm_some hss).1
          go_wp2_with fail
          refine (in_sn_110 _).mono ?_
          rintro _ wq ⟨rfl, hq⟩
          obtain rfl := hq.symm
          clear hq
          cases hsn : sm (gx xs 2).data.toList 4 with
          | none =>
            go_upto_region 20 with fail
            clear c0 c1 c2 c3 c4 c5 c6 c7 z0 z1 z2 z3 z4 z6 z7
            have HLt := Lib.hid (show 2 < xs.length by have := HM.out; omega)
            have HLi := Lib.hid (show (2 : Int) < (xs.length : Int) by have := HLt.out; omega)
            have HAt := Lib.hid (show (0 : Int) ≤ 2 by decide)
            have HQ := Lib.hid (HQs.out.below (Below.refl _ _).drew)
            refine wp_region_held_drew (S := fun V => ∃ yy : St, yy.k = 6 ∧ PG w V T g xs yy) (by kernel_rfl) ⟨_, rfl, HQ.out⟩ (fun hHeld => ?_)
            obtain ⟨Wq, hWq⟩ : ∃ Wq, Wq = Wss.drew := ⟨_, rfl⟩
            rw [← hWq] at HQ hHeld ⊢
            clear hWq
            refine wpAnyH_take (i := 0) (oi := _) (v := ?_) rfl (by kernel_rfl) (by kernel_rfl) (by kernel_rfl) (fun _ _ _ h => h) (Or.inl ⟨by rfl, ?_⟩) (by assumption) ?_
            rotate_left
            · (intro W hSw; obtain ⟨yy, hyk, hSw⟩ := hSw; obtain ⟨⟨c0, c1, c2, c3, c4, c5, c6, c7⟩, z0, z1, z2, z3, z4, z6, z7⟩ := PG.cells hSw; rw [hyk] at c0; have hgT := PG.hT hSw; have wa := PG.row hSw 2 HLt.out; have hlt := HLt.out; have hlti := HLi.out; have hat := HAt.out; go_simp; try with_reducible rfl)
            try simp only [Act.put, List.getElem_toArray, List.getElem_cons_zero, List.setIfInBounds_toArray, List.set_cons_zero, List.set_cons_succ]
            refine wpAnyH_take (i := 1) (oi := _) (v := ?_) rfl (by kernel_rfl) (by kernel_rfl) (by kernel_rfl) (fun _ _ _ h => h) (Or.inl ⟨by rfl, ?_⟩) (by assumption) ?_
            rotate_left
            · (intro W hSw; obtain ⟨yy, hyk, hSw⟩ := hSw; obtain ⟨⟨c0, c1, c2, c3, c4, c5, c6, c7⟩, z0, z1, z2, z3, z4, z6, z7⟩ := PG.cells hSw; rw [hyk] at c0; have hgT := PG.hT hSw; have wa := PG.row hSw 2 HLt.out; have hlt := HLt.out; have hlti := HLi.out; have hat := HAt.out; go_simp; try with_reducible rfl)
            try simp only [Act.put, List.getElem_toArray, List.getElem_cons_succ, List.getElem_cons_zero, List.setIfInBounds_toArray, List.set_cons_zero, List.set_cons_succ]
            refine wpAnyH_take (i := 2) (oi := _) (v := ?_) rfl (by kernel_rfl) (by kernel_rfl) (by kernel_rfl) (fun _ _ _ h => h) (Or.inl ⟨by rfl, ?_⟩) (by assumption) ?_
            rotate_left
            · (intro W hSw; obtain ⟨yy, hyk, hSw⟩ := hSw; obtain ⟨⟨c0, c1, c2, c3, c4, c5, c6, c7⟩, z0, z1, z2, z3, z4, z6, z7⟩ := PG.cells hSw; rw [hyk] at c0; have hgT := PG.hT hSw; have wa := PG.row hSw 2 HLt.out; have hlt := HLt.out; have hlti := HLi.out; have hat := HAt.out; go_simp; try with_reducible rfl)
            try simp only [Act.put, List.getElem_toArray, List.getElem_cons_succ, List.getElem_cons_zero, List.setIfInBounds_toArray, List.set_cons_zero, List.set_cons_succ]
            refine wpAnyH_take (i := 3) (oi := _) (v := ?_) rfl (by kernel_rfl) (by kernel_rfl) (by kernel_rfl) (fun _ _ _ h => h) (Or.inl ⟨by rfl, ?_⟩) (by assumption) ?_
            rotate_left
            · (intro W hSw; obtain ⟨yy, hyk, hSw⟩ := hSw; obtain ⟨⟨c0, c1, c2, c3, c4, c5, c6, c7⟩, z0, z1, z2, z3, z4, z6, z7⟩ := PG.cells hSw; rw [hyk] at c0; have hgT := PG.hT hSw; have wa := PG.row hSw 2 HLt.out; have hlt := HLt.out; have hlti := HLi.out; have hat := HAt.out; go_simp; try with_reducible rfl)
            try simp only [Act.put, List.getElem_toArray, List.getElem_cons_succ, List.getElem_cons_zero, List.setIfInBounds_toArray, List.set_cons_zero, List.set_cons_succ]
            refine wpAnyH_take (i := 4) (oi := _) (v := ?_) rfl (by kernel_rfl) (by kernel_rfl) (by kernel_rfl) (fun _ _ _ h => h) (Or.inl ⟨by rfl, ?_⟩) (by assumption) ?_
            rotate_left
            · (intro W hSw; obtain ⟨yy, hyk, hSw⟩ := hSw; obtain ⟨⟨c0, c1, c2, c3, c4, c5, c6, c7⟩, z0, z1, z2, z3, z4, z6, z7⟩ := PG.cells hSw; rw [hyk] at c0; have hgT := PG.hT hSw; have wa := PG.row hSw 2 HLt.out; have hlt := HLt.out; have hlti := HLi.out; have hat := HAt.out; go_simp; try with_reducible rfl)
            try simp only [Act.put, List.getElem_toArray, List.getElem_cons_succ, List.getElem_cons_zero, List.setIfInBounds_toArray, List.set_cons_zero, List.set_cons_succ]
            refine wpAnyH_take (i := 5) (oi := _) (v := ?_) rfl (by kernel_rfl) (by kernel_rfl) (by kernel_rfl) (fun _ _ _ h => h) (Or.inl ⟨by rfl, ?_⟩) (by assumption) ?_
            rotate_left
            · (intro W hSw; obtain ⟨yy, hyk, hSw⟩ := hSw; obtain ⟨⟨c0, c1, c2, c3, c4, c5, c6, c7⟩, z0, z1, z2, z3, z4, z6, z7⟩ := PG.cells hSw; rw [hyk] at c0; have hgT := PG.hT hSw; have wa := PG.row hSw 2 HLt.out; have hlt := HLt.out; have hlti := HLi.out; have hat := HAt.out; go_simp; try with_reducible rfl)
            try simp only [Act.put, List.getElem_toArray, List.getElem_cons_succ, List.getElem_cons_zero, List.setIfInBounds_toArray, List.set_cons_zero, List.set_cons_succ]
            refine wpAnyH_ready (rs := [6]) (by kernel_rfl) (by simp) ?_
            refine AllReadyH.cons rfl (fun K hK => ?_) AllReadyH.nil
            simp only [List.getElem_toArray, List.getElem_cons_succ, List.getElem_cons_zero]
            rw [if_pos (by rfl)]
            go_simp
            refine (St15.most_6' _).mono ?_
            rintro _ wm ⟨rfl, hwm⟩
            obtain rfl := hwm.symm
            go_wp2_with fail
            refine hK.out _ _ hHeld (fun hHeld => ?_)
            clear hK K
            try simp only [Act.put, List.getElem_toArray, List.getElem_cons_succ, List.getElem_cons_zero, List.setIfInBounds_toArray, List.set_cons_zero, List.set_cons_succ]
            refine wpAnyH_ready (rs := [7]) (by kernel_rfl) (by simp) ?_
            refine AllReadyH.cons rfl (fun K hK => ?_) AllReadyH.nil
            simp only [List.getElem_toArray, List.getElem_cons_succ, List.getElem_cons_zero]
            rw [if_pos (by rfl)]
            go_simp
            refine (small_none (m := 4) hsn (by have := xs_sz HXs.out 2; have := HS.out; omega) (by decide) _).mono ?_
            rintro _ wm ⟨rfl, hwm2⟩
            obtain rfl := hwm2.symm
            go_wp2_with fail
            refine hK.out _ _ hHeld (fun hHeld => ?_)
            clear hK K
            try simp only [Act.put, List.getElem_toArray, List.getElem_cons_succ, List.getElem_cons_zero, List.setIfInBounds_toArray, List.set_cons_zero, List.set_cons_succ]
            refine wpAnyH_take (i := 8) (oi := _) (v := ?_) rfl (by kernel_rfl) (by kernel_rfl) (by kernel_rfl) (fun _ _ _ h => h) (Or.inl ⟨by rfl, ?_⟩) (by assumption) ?_
            rotate_left
            · (intro W hSw; obtain ⟨yy, hyk, hSw⟩ := hSw; obtain ⟨⟨c0, c1, c2, c3, c4, c5, c6, c7⟩, z0, z1, z2, z3, z4, z6, z7⟩ := PG.cells hSw; rw [hyk] at c0; have hgT := PG.hT hSw; have wa := PG.row hSw 2 HLt.out; have hlt := HLt.out; have hlti := HLi.out; have hat := HAt.out; go_simp; try with_reducible rfl)
            try simp only [Act.put, List.getElem_toArray, List.getElem_cons_succ, List.getElem_cons_zero, List.setIfInBounds_toArray, List.set_cons_zero, List.set_cons_succ]
            refine wpAnyH_take (i := 9) (oi := _) (v := ?_) rfl (by kernel_rfl) (by kernel_rfl) (by kernel_rfl) (fun _ _ _ h => h) (Or.inl ⟨by rfl, ?_⟩) (by assumption) ?_
            rotate_left
            · (intro W hSw; obtain ⟨yy, hyk, hSw⟩ := hSw; obtain ⟨⟨c0, c1, c2, c3, c4, c5, c6, c7⟩, z0, z1, z2, z3, z4, z6, z7⟩ := PG.cells hSw; rw [hyk] at c0; have hgT := PG.hT hSw; have wa := PG.row hSw 2 HLt.out; have hlt := HLt.out; have hlti := HLi.out; have hat := HAt.out; go_simp; try with_reducible rfl)
            try simp only [Act.put, List.getElem_toArray, List.getElem_cons_succ, List.getElem_cons_zero, List.setIfInBounds_toArray, List.set_cons_zero, List.set_cons_succ]
            refine wpAnyH_take (i := 10) (oi := _) (v := ?_) rfl (by kernel_rfl) (by kernel_rfl) (by kernel_rfl) (fun _ _ _ h => h) (Or.inl ⟨by rfl, ?_⟩) (by assumption) ?_
            rotate_left
            · (intro W hSw; obtain ⟨yy, hyk, hSw⟩ := hSw; obtain ⟨⟨c0, c1, c2, c3, c4, c5, c6, c7⟩, z0, z1, z2, z3, z4, z6, z7⟩ := PG.cells hSw; rw [hyk] at c0; have hgT := PG.hT hSw; have wa := PG.row hSw 2 HLt.out; have hlt := HLt.out; have hlti := HLi.out; have hat := HAt.out; go_simp; try with_reducible rfl)
            try simp only [Act.put, List.getElem_toArray, List.getElem_cons_succ, List.getElem_cons_zero, List.setIfInBounds_toArray, List.set_cons_zero, List.set_cons_succ]
            refine wpAnyH_take (i := 11) (oi := _) (v := ?_) rfl (by kernel_rfl) (by kernel_rfl) (by kernel_rfl) (fun _ _ _ h => h) (Or.inl ⟨by rfl, ?_⟩) (by assumption) ?_
            rotate_left
            · (intro W hSw; obtain ⟨yy, hyk, hSw⟩ := hSw; obtain ⟨⟨c0, c1, c2, c3, c4, c5, c6, c7⟩, z0, z1, z2, z3, z4, z6, z7⟩ := PG.cells hSw; rw [hyk] at c0; have hgT := PG.hT hSw; have wa := PG.row hSw 2 HLt.out; have hlt := HLt.out; have hlti := HLi.out; have hat := HAt.out; go_simp; try with_reducible rfl)
            try simp only [Act.put, List.getElem_toArray, List.getElem_cons_succ, List.getElem_cons_zero, List.setIfInBounds_toArray, List.set_cons_zero, List.set_cons_succ]
            obtain ⟨⟨c0, c1, c2, c3, c4, c5, c6, c7⟩, z0, z1, z2, z3, z4, z6, z7⟩ := HQ.out.cells
            have hgT := HQ.out.hT
            have HQ2 := Lib.hid (HQ.out.set (x' := (⟨6, (us : Int), 0, 0, 0, 0, 0, ⟨#[]⟩⟩ : St)) 2 (.int .i64 0) rfl)
            refine wpAnyH_ready (rs := [12]) (by kernel_rfl) (by simp) ?_
            refine AllReadyH.cons rfl (fun K hK => ?_) AllReadyH.nil
            simp only [List.getElem_toArray, List.getElem_cons_succ, List.getElem_cons_zero]
            rw [if_pos (by rfl)]
            go_simp
            refine hK.out _ _ ⟨_, rfl, HQ2.out⟩ (fun hHeld => ?_)
            clear hK K
            try simp only [Act.put, List.getElem_toArray, List.getElem_cons_succ, List.getElem_cons_zero, List.setIfInBounds_toArray, List.set_cons_zero, List.set_cons_succ]
            generalize Wq.setCell _ _ = Wqn at HQ2 hHeld ⊢
            clear c0 c1 c2 c3 c4 c5 c6 c7 z0 z1 z2 z3 z4 z6 z7 HQ hgT
            refine wpAnyH_take (i := 13) (oi := _) (v := ?_) rfl (by kernel_rfl) (by kernel_rfl) (by kernel_rfl) (fun _ _ _ h => h) (Or.inl ⟨by rfl, ?_⟩) (by assumption) ?_
            rotate_left
            · (intro W hSw; skip; go_simp; try with_reducible rfl)
            try simp only [Act.put, List.getElem_toArray, List.getElem_cons_succ, List.getElem_cons_zero, List.setIfInBounds_toArray, List.set_cons_zero, List.set_cons_succ]
            refine wpAnyH_done (by kernel_rfl) ?_ _
            clear hHeld
            obtain ⟨⟨c0, c1, c2, c3, c4, c5, c6, c7⟩, z0, z1, z2, z3, z4, z6, z7⟩ := HQ2.out.cells
            dsimp only at c0 c1 c2 c3 c4 c5 c6 c7
            go_wp2_with fail
            refine (St15.in_sn_112 _).mono ?_
            rintro _ wq ⟨rfl, hq⟩
            obtain rfl := hq.symm
            clear hq
            have HE := Lib.hid (show strict (sp s.data.toList) = none by rw [strict_three HK.out (show sp s.data.toList = _ by rw [← HXs.out]; exact three3 HM.out), hss]; show (sm _ 4).bind _ = _; rw [hsn]; rfl)
            go_upto_region 28 with fail
            clear c0 c1 c2 c3 c4 c5 c6 c7 z0 z1 z2 z3 z4 z6 z7
            refine wp_region_held_drew (S := fun V => PG w V T g xs (⟨6, (us : Int), 0, 0, 0, 0, 0, ⟨#[]⟩⟩ : St)) (by kernel_rfl) (HQ2.out.below (Below.refl _ _).drew) (fun hHeld => ?_)
            refine wpAnyH_take (i := 0) (oi := _) (v := ?_) rfl (by kernel_rfl) (by kernel_rfl) (by kernel_rfl) (fun _ _ _ h => h) (Or.inl ⟨by rfl, ?_⟩) (by assumption) ?_
            rotate_left
            · (intro W hSw; obtain ⟨⟨c0, c1, c2, c3, c4, c5, c6, c7⟩, _⟩ := PG.cells hSw; dsimp only at c0 c1 c2 c3 c4 c5 c6 c7; have hgT := PG.hT hSw; have hgw := PG.hg hSw; go_simp; try with_reducible rfl)
            try simp only [Act.put, List.getElem_toArray, List.getElem_cons_zero, List.setIfInBounds_toArray, List.set_cons_zero, List.set_cons_succ]
            refine wpAnyH_take (i := 1) (oi := _) (v := ?_) rfl (by kernel_rfl) (by kernel_rfl) (by kernel_rfl) (fun _ _ _ h => h) (Or.inl ⟨by rfl, ?_⟩) (by assumption) ?_
            rotate_left
            · (intro W hSw; obtain ⟨⟨c0, c1, c2, c3, c4, c5, c6, c7⟩, _⟩ := PG.cells hSw; dsimp only at c0 c1 c2 c3 c4 c5 c6 c7; have hgT := PG.hT hSw; have hgw := PG.hg hSw; go_simp; try with_reducible rfl)
            try simp only [Act.put, List.getElem_toArray, List.getElem_cons_succ, List.getElem_cons_zero, List.setIfInBounds_toArray, List.set_cons_zero, List.set_cons_succ]
            refine wpAnyH_take (i := 2) (oi := _) (v := ?_) rfl (by kernel_rfl) (by kernel_rfl) (by kernel_rfl) (fun _ _ _ h => h) (Or.inl ⟨by rfl, ?_⟩) (by assumption) ?_
            rotate_left
            · (intro W hSw; obtain ⟨⟨c0, c1, c2, c3, c4, c5, c6, c7⟩, _⟩ := PG.cells hSw; dsimp only at c0 c1 c2 c3 c4 c5 c6 c7; have hgT := PG.hT hSw; have hgw := PG.hg hSw; go_simp; try with_reducible rfl)
            try simp only [Act.put, List.getElem_toArray, List.getElem_cons_succ, List.getElem_cons_zero, List.setIfInBounds_toArray, List.set_cons_zero, List.set_cons_succ]
            refine wpAnyH_take (i := 3) (oi := _) (v := undef) rfl (by kernel_rfl) (by kernel_rfl) (by kernel_rfl) (fun _ _ _ h => h) (Or.inr ⟨by rfl, rfl⟩) (by assumption) ?_
            try simp only [Act.put, List.getElem_toArray, List.getElem_cons_succ, List.getElem_cons_zero, List.setIfInBounds_toArray, List.set_cons_zero, List.set_cons_succ]
            refine wpAnyH_take (i := 4) (oi := _) (v := undef) rfl (by kernel_rfl) (by kernel_rfl) (by kernel_rfl) (fun _ _ _ h => h) (Or.inr ⟨by rfl, rfl⟩) (by assumption) ?_
            try simp only [Act.put, List.getElem_toArray, List.getElem_cons_succ, List.getElem_cons_zero, List.setIfInBounds_toArray, List.set_cons_zero, List.set_cons_succ]
            refine wpAnyH_take (i := 5) (oi := _) (v := ?_) rfl (by kernel_rfl) (by kernel_rfl) (by kernel_rfl) (fun _ _ _ h => h) (Or.inl ⟨by rfl, ?_⟩) (by assumption) ?_
            rotate_left
            · (intro W hSw; obtain ⟨⟨c0, c1, c2, c3, c4, c5, c6, c7⟩, _⟩ := PG.cells hSw; dsimp only at c0 c1 c2 c3 c4 c5 c6 c7; have hgT := PG.hT hSw; have hgw := PG.hg hSw; go_simp; try with_reducible rfl)
            try simp only [Act.put, List.getElem_toArray, List.getElem_cons_succ, List.getElem_cons_zero, List.setIfInBounds_toArray, List.set_cons_zero, List.set_cons_succ]
            obtain ⟨y0, hy0⟩ := PG.r hHeld
            have HRr := Lib.hid (setRow_heap (Wqn.drew) w.heap.size _ (⟨6, (us : Int), 0, 0, 0, 0, 0, ⟨#[]⟩⟩ : St).cells 26 (0, 0) hy0)
            refine wpAnyH_ready (rs := [6]) (by kernel_rfl) (by simp) ?_
            refine AllReadyH.cons rfl (fun K hK => ?_) AllReadyH.nil
            simp only [List.getElem_toArray, List.getElem_cons_succ, List.getElem_cons_zero]
            rw [if_pos (by rfl)]
            refine wp_store_row 26 _ _ rfl w.heap.size (⟨6, (us : Int), 0, 0, 0, 0, 0, ⟨#[]⟩⟩ : St).cells rfl rfl 26 _ hy0 (hi8 (⟨6, (us : Int), 0, 0, 0, 0, 0, ⟨#[]⟩⟩ : St)) rfl (cells8_one _) ?_
            refine hK.out _ _ (PG.setR hHeld) (fun hHeld => ?_)
            clear hK K
            try simp only [Act.put, List.setIfInBounds_toArray, List.set_cons_zero, List.set_cons_succ]
            refine wpAnyH_take (i := 7) (oi := _) (v := ?_) rfl (by kernel_rfl) (by kernel_rfl) (by kernel_rfl) (fun _ _ _ h => h) (Or.inl ⟨by rfl, ?_⟩) (by assumption) ?_
            rotate_left
            · (intro W hSw; skip; go_simp; try with_reducible rfl)
            try simp only [Act.put, List.getElem_toArray, List.getElem_cons_succ, List.getElem_cons_zero, List.setIfInBounds_toArray, List.set_cons_zero, List.set_cons_succ]
            refine wpAnyH_done (by kernel_rfl) ?_ _
            have hB9 := PG.b hHeld
            obtain ⟨W9, hW9⟩ : ∃ W9, W9 = (Wqn.drew).setRow w.heap.size (⟨6, (us : Int), 0, 0, 0, 0, 0, ⟨#[]⟩⟩ : St).cells := ⟨_, rfl⟩
            have HR' := HRr.out
            rw [← hW9] at HR' hB9 ⊢
            clear hW9 hy0 hHeld HRr
            go_wp2_with fail
            exact bodyPost_ret (res8p _ _ w.heap.size (⟨6, (us : Int), 0, 0, 0, 0, 0, ⟨#[]⟩⟩ : St) false rfl rfl HR') rfl ⟨.inr ⟨HE.out, (⟨6, (us : Int), 0, 0, 0, 0, 0, ⟨#[]⟩⟩ : St), rfl⟩, hB9⟩
          | some un =>
            go_upto_region 20 with fail
            clear c0 c1 c2 c3 c4 c5 c6 c7 z0 z1 z2 z3 z4 z6 z7
            have HLt := Lib.hid (show 2 < xs.length by have := HM.out; omega)
            have HLi := Lib.hid (show (2 : Int) < (xs.length : Int) by have := HLt.out; omega)
            have HAt := Lib.hid (show (0 : Int) ≤ 2 by decide)
            have HQ := Lib.hid (HQs.out.below (Below.refl _ _).drew)
            refine wp_region_held_drew (S := fun V => ∃ yy : St, yy.k = 6 ∧ PG w V T g xs yy) (by kernel_rfl) ⟨_, rfl, HQ.out⟩ (fun hHeld => ?_)
            obtain ⟨Wq, hWq⟩ : ∃ Wq, Wq = Wss.drew := ⟨_, rfl⟩
            rw [← hWq] at HQ hHeld ⊢
            clear hWq
            refine wpAnyH_take (i := 0) (oi := _) (v := ?_) rfl (by kernel_rfl) (by kernel_rfl) (by kernel_rfl) (fun _ _ _ h => h) (Or.inl ⟨by rfl, ?_⟩) (by assumption) ?_
            rotate_left
            · (intro W hSw; obtain ⟨yy, hyk, hSw⟩ := hSw; obtain ⟨⟨c0, c1, c2, c3, c4, c5, c6, c7⟩, z0, z1, z2, z3, z4, z6, z7⟩ := PG.cells hSw; rw [hyk] at c0; have hgT := PG.hT hSw; have wa := PG.row hSw 2 HLt.out; have hlt := HLt.out; have hlti := HLi.out; have hat := HAt.out; go_simp; try with_reducible rfl)
            try simp only [Act.put, List.getElem_toArray, List.getElem_cons_zero, List.setIfInBounds_toArray, List.set_cons_zero, List.set_cons_succ]
            refine wpAnyH_take (i := 1) (oi := _) (v := ?_) rfl (by kernel_rfl) (by kernel_rfl) (by kernel_rfl) (fun _ _ _ h => h) (Or.inl ⟨by rfl, ?_⟩) (by assumption) ?_
            rotate_left
            · (intro W hSw; obtain ⟨yy, hyk, hSw⟩ := hSw; obtain ⟨⟨c0, c1, c2, c3, c4, c5, c6, c7⟩, z0, z1, z2, z3, z4, z6, z7⟩ := PG.cells hSw; rw [hyk] at c0; have hgT := PG.hT hSw; have wa := PG.row hSw 2 HLt.out; have hlt := HLt.out; have hlti := HLi.out; have hat := HAt.out; go_simp; try with_reducible rfl)
            try simp only [Act.put, List.getElem_toArray, List.getElem_cons_succ, List.getElem_cons_zero, List.setIfInBounds_toArray, List.set_cons_zero, List.set_cons_succ]
            refine wpAnyH_take (i := 2) (oi := _) (v := ?_) rfl (by kernel_rfl) (by kernel_rfl) (by kernel_rfl) (fun _ _ _ h => h) (Or.inl ⟨by rfl, ?_⟩) (by assumption) ?_
            rotate_left
            · (intro W hSw; obtain ⟨yy, hyk, hSw⟩ := hSw; obtain ⟨⟨c0, c1, c2, c3, c4, c5, c6, c7⟩, z0, z1, z2, z3, z4, z6, z7⟩ := PG.cells hSw; rw [hyk] at c0; have hgT := PG.hT hSw; have wa := PG.row hSw 2 HLt.out; have hlt := HLt.out; have hlti := HLi.out; have hat := HAt.out; go_simp; try with_reducible rfl)
            try simp only [Act.put, List.getElem_toArray, List.getElem_cons_succ, List.getElem_cons_zero, List.setIfInBounds_toArray, List.set_cons_zero, List.set_cons_succ]
            refine wpAnyH_take (i := 3) (oi := _) (v := ?_) rfl (by kernel_rfl) (by kernel_rfl) (by kernel_rfl) (fun _ _ _ h => h) (Or.inl ⟨by rfl, ?_⟩) (by assumption) ?_
            rotate_left
            · (intro W hSw; obtain ⟨yy, hyk, hSw⟩ := hSw; obtain ⟨⟨c0, c1, c2, c3, c4, c5, c6, c7⟩, z0, z1, z2, z3, z4, z6, z7⟩ := PG.cells hSw; rw [hyk] at c0; have hgT := PG.hT hSw; have wa := PG.row hSw 2 HLt.out; have hlt := HLt.out; have hlti := HLi.out; have hat := HAt.out; go_simp; try with_reducible rfl)
            try simp only [Act.put, List.getElem_toArray, List.getElem_cons_succ, List.getElem_cons_zero, List.setIfInBounds_toArray, List.set_cons_zero, List.set_cons_succ]
            refine wpAnyH_take (i := 4) (oi := _) (v := ?_) rfl (by kernel_rfl) (by kernel_rfl) (by kernel_rfl) (fun _ _ _ h => h) (Or.inl ⟨by rfl, ?_⟩) (by assumption) ?_
            rotate_left
            · (intro W hSw; obtain ⟨yy, hyk, hSw⟩ := hSw; obtain ⟨⟨c0, c1, c2, c3, c4, c5, c6, c7⟩, z0, z1, z2, z3, z4, z6, z7⟩ := PG.cells hSw; rw [hyk] at c0; have hgT := PG.hT hSw; have wa := PG.row hSw 2 HLt.out; have hlt := HLt.out; have hlti := HLi.out; have hat := HAt.out; go_simp; try with_reducible rfl)
            try simp only [Act.put, List.getElem_toArray, List.getElem_cons_succ, List.getElem_cons_zero, List.setIfInBounds_toArray, List.set_cons_zero, List.set_cons_succ]
            refine wpAnyH_take (i := 5) (oi := _) (v := ?_) rfl (by kernel_rfl) (by kernel_rfl) (by kernel_rfl) (fun _ _ _ h => h) (Or.inl ⟨by rfl, ?_⟩) (by assumption) ?_
            rotate_left
            · (intro W hSw; obtain ⟨yy, hyk, hSw⟩ := hSw; obtain ⟨⟨c0, c1, c2, c3, c4, c5, c6, c7⟩, z0, z1, z2, z3, z4, z6, z7⟩ := PG.cells hSw; rw [hyk] at c0; have hgT := PG.hT hSw; have wa := PG.row hSw 2 HLt.out; have hlt := HLt.out; have hlti := HLi.out; have hat := HAt.out; go_simp; try with_reducible rfl)
            try simp only [Act.put, List.getElem_toArray, List.getElem_cons_succ, List.getElem_cons_zero, List.setIfInBounds_toArray, List.set_cons_zero, List.set_cons_succ]
            refine wpAnyH_ready (rs := [6]) (by kernel_rfl) (by simp) ?_
            refine AllReadyH.cons rfl (fun K hK => ?_) AllReadyH.nil
            simp only [List.getElem_toArray, List.getElem_cons_succ, List.getElem_cons_zero]
            rw [if_pos (by rfl)]
            go_simp
            refine (St15.most_6' _).mono ?_
            rintro _ wm ⟨rfl, hwm⟩
            obtain rfl := hwm.symm
            go_wp2_with fail
            refine hK.out _ _ hHeld (fun hHeld => ?_)
            clear hK K
            try simp only [Act.put, List.getElem_toArray, List.getElem_cons_succ, List.getElem_cons_zero, List.setIfInBounds_toArray, List.set_cons_zero, List.set_cons_succ]
            refine wpAnyH_ready (rs := [7]) (by kernel_rfl) (by simp) ?_
            refine AllReadyH.cons rfl (fun K hK => ?_) AllReadyH.nil
            simp only [List.getElem_toArray, List.getElem_cons_succ, List.getElem_cons_zero]
            rw [if_pos (by rfl)]
            go_simp
            refine (small_some (m := 4) hsn (by have := xs_sz HXs.out 2; have := HS.out; omega) (by decide) _).mono ?_
            rintro _ wm ⟨rfl, hwm2⟩
            obtain rfl := hwm2.symm
            go_wp2_with fail
            refine hK.out _ _ hHeld (fun hHeld => ?_)
            clear hK K
            try simp only [Act.put, List.getElem_toArray, List.getElem_cons_succ, List.getElem_cons_zero, List.setIfInBounds_toArray, List.set_cons_zero, List.set_cons_succ]
            refine wpAnyH_take (i := 8) (oi := _) (v := ?_) rfl (by kernel_rfl) (by kernel_rfl) (by kernel_rfl) (fun _ _ _ h => h) (Or.inl ⟨by rfl, ?_⟩) (by assumption) ?_
            rotate_left
            · (intro W hSw; obtain ⟨yy, hyk, hSw⟩ := hSw; obtain ⟨⟨c0, c1, c2, c3, c4, c5, c6, c7⟩, z0, z1, z2, z3, z4, z6, z7⟩ := PG.cells hSw; rw [hyk] at c0; have hgT := PG.hT hSw; have wa := PG.row hSw 2 HLt.out; have hlt := HLt.out; have hlti := HLi.out; have hat := HAt.out; go_simp; try with_reducible rfl)
            try simp only [Act.put, List.getElem_toArray, List.getElem_cons_succ, List.getElem_cons_zero, List.setIfInBounds_toArray, List.set_cons_zero, List.set_cons_succ]
            refine wpAnyH_take (i := 9) (oi := _) (v := ?_) rfl (by kernel_rfl) (by kernel_rfl) (by kernel_rfl) (fun _ _ _ h => h) (Or.inl ⟨by rfl, ?_⟩) (by assumption) ?_
            rotate_left
            · (intro W hSw; obtain ⟨yy, hyk, hSw⟩ := hSw; obtain ⟨⟨c0, c1, c2, c3, c4, c5, c6, c7⟩, z0, z1, z2, z3, z4, z6, z7⟩ := PG.cells hSw; rw [hyk] at c0; have hgT := PG.hT hSw; have wa := PG.row hSw 2 HLt.out; have hlt := HLt.out; have hlti := HLi.out; have hat := HAt.out; go_simp; try with_reducible rfl)
            try simp only [Act.put, List.getElem_toArray, List.getElem_cons_succ, List.getElem_cons_zero, List.setIfInBounds_toArray, List.set_cons_zero, List.set_cons_succ]
            refine wpAnyH_take (i := 10) (oi := _) (v := ?_) rfl (by kernel_rfl) (by kernel_rfl) (by kernel_rfl) (fun _ _ _ h => h) (Or.inl ⟨by rfl, ?_⟩) (by assumption) ?_
            rotate_left
            · (intro W hSw; obtain ⟨yy, hyk, hSw⟩ := hSw; obtain ⟨⟨c0, c1, c2, c3, c4, c5, c6, c7⟩, z0, z1, z2, z3, z4, z6, z7⟩ := PG.cells hSw; rw [hyk] at c0; have hgT := PG.hT hSw; have wa := PG.row hSw 2 HLt.out; have hlt := HLt.out; have hlti := HLi.out; have hat := HAt.out; go_simp; try with_reducible rfl)
            try simp only [Act.put, List.getElem_toArray, List.getElem_cons_succ, List.getElem_cons_zero, List.setIfInBounds_toArray, List.set_cons_zero, List.set_cons_succ]
            refine wpAnyH_take (i := 11) (oi := _) (v := ?_) rfl (by kernel_rfl) (by kernel_rfl) (by kernel_rfl) (fun _ _ _ h => h) (Or.inl ⟨by rfl, ?_⟩) (by assumption) ?_
            rotate_left
            · (intro W hSw; obtain ⟨yy, hyk, hSw⟩ := hSw; obtain ⟨⟨c0, c1, c2, c3, c4, c5, c6, c7⟩, z0, z1, z2, z3, z4, z6, z7⟩ := PG.cells hSw; rw [hyk] at c0; have hgT := PG.hT hSw; have wa := PG.row hSw 2 HLt.out; have hlt := HLt.out; have hlti := HLi.out; have hat := HAt.out; go_simp; try with_reducible rfl)
            try simp only [Act.put, List.getElem_toArray, List.getElem_cons_succ, List.getElem_cons_zero, List.setIfInBounds_toArray, List.set_cons_zero, List.set_cons_succ]
            obtain ⟨⟨c0, c1, c2, c3, c4, c5, c6, c7⟩, z0, z1, z2, z3, z4, z6, z7⟩ := HQ.out.cells
            have hgT := HQ.out.hT
            have HQ2 := Lib.hid (HQ.out.set (x' := (⟨6, (us : Int), (un : Int), 0, 0, 0, 0, ⟨#[]⟩⟩ : St)) 2 (.int .i64 (un : Int)) rfl)
            refine wpAnyH_ready (rs := [12]) (by kernel_rfl) (by simp) ?_
            refine AllReadyH.cons rfl (fun K hK => ?_) AllReadyH.nil
            simp only [List.getElem_toArray, List.getElem_cons_succ, List.getElem_cons_zero]
            rw [if_pos (by rfl)]
            go_simp
            refine hK.out _ _ ⟨_, rfl, HQ2.out⟩ (fun hHeld => ?_)
            clear hK K
            try simp only [Act.put, List.getElem_toArray, List.getElem_cons_succ, List.getElem_cons_zero, List.setIfInBounds_toArray, List.set_cons_zero, List.set_cons_succ]
            generalize Wq.setCell _ _ = Wqs at HQ2 hHeld ⊢
            clear c0 c1 c2 c3 c4 c5 c6 c7 z0 z1 z2 z3 z4 z6 z7 HQ hgT
            refine wpAnyH_take (i := 13) (oi := _) (v := ?_) rfl (by kernel_rfl) (by kernel_rfl) (by kernel_rfl) (fun _ _ _ h => h) (Or.inl ⟨by rfl, ?_⟩) (by assumption) ?_
            rotate_left
            · (intro W hSw; skip; go_simp; try with_reducible rfl)
            try simp only [Act.put, List.getElem_toArray, List.getElem_cons_succ, List.getElem_cons_zero, List.setIfInBounds_toArray, List.set_cons_zero, List.set_cons_succ]
            refine wpAnyH_done (by kernel_rfl) ?_ _
            clear hHeld
            obtain ⟨⟨c0, c1, c2, c3, c4, c5, c6, c7⟩, z0, z1, z2, z3, z4, z6, z7⟩ := HQ2.out.cells
            dsimp only at c0 c1 c2 c3 c4 c5 c6 c7
            have hun := (sm_some hsn).1
            go_wp2_with fail
            refine (St15.in_sn_112 _).mono ?_
            rintro _ wq ⟨rfl, hq⟩
            obtain rfl := hq.symm
            clear hq
            by_cases hz : un = 0
            · subst hz
              have HE := Lib.hid (show strict (sp s.data.toList) = none by rw [strict_three HK.out (show sp s.data.toList = _ by rw [← HXs.out]; exact three3 HM.out), hss]; show (sm _ 4).bind _ = _; rw [hsn]; rfl)
              go_upto_region 28 with fail
              clear c0 c1 c2 c3 c4 c5 c6 c7 z0 z1 z2 z3 z4 z6 z7
              refine wp_region_held_drew (S := fun V => PG w V T g xs (⟨6, (us : Int), 0, 0, 0, 0, 0, ⟨#[]⟩⟩ : St)) (by kernel_rfl) (HQ2.out.below (Below.refl _ _).drew) (fun hHeld => ?_)
              refine wpAnyH_take (i := 0) (oi := _) (v := ?_) rfl (by kernel_rfl) (by kernel_rfl) (by kernel_rfl) (fun _ _ _ h => h) (Or.inl ⟨by rfl, ?_⟩) (by assumption) ?_
              rotate_left
              · (intro W hSw; obtain ⟨⟨c0, c1, c2, c3, c4, c5, c6, c7⟩, _⟩ := PG.cells hSw; dsimp only at c0 c1 c2 c3 c4 c5 c6 c7; have hgT := PG.hT hSw; have hgw := PG.hg hSw; go_simp; try with_reducible rfl)
              try simp only [Act.put, List.getElem_toArray, List.getElem_cons_zero, List.setIfInBounds_toArray, List.set_cons_zero, List.set_cons_succ]
              refine wpAnyH_take (i := 1) (oi := _) (v := ?_) rfl (by kernel_rfl) (by kernel_rfl) (by kernel_rfl) (fun _ _ _ h => h) (Or.inl ⟨by rfl, ?_⟩) (by assumption) ?_
              rotate_left
              · (intro W hSw; obtain ⟨⟨c0, c1, c2, c3, c4, c5, c6, c7⟩, _⟩ := PG.cells hSw; dsimp only at c0 c1 c2 c3 c4 c5 c6 c7; have hgT := PG.hT hSw; have hgw := PG.hg hSw; go_simp; try with_reducible rfl)
              try simp only [Act.put, List.getElem_toArray, List.getElem_cons_succ, List.getElem_cons_zero, List.setIfInBounds_toArray, List.set_cons_zero, List.set_cons_succ]
              refine wpAnyH_take (i := 2) (oi := _) (v := ?_) rfl (by kernel_rfl) (by kernel_rfl) (by kernel_rfl) (fun _ _ _ h => h) (Or.inl ⟨by rfl, ?_⟩) (by assumption) ?_
              rotate_left
              · (intro W hSw; obtain ⟨⟨c0, c1, c2, c3, c4, c5, c6, c7⟩, _⟩ := PG.cells hSw; dsimp only at c0 c1 c2 c3 c4 c5 c6 c7; have hgT := PG.hT hSw; have hgw := PG.hg hSw; go_simp; try with_reducible rfl)
              try simp only [Act.put, List.getElem_toArray, List.getElem_cons_succ, List.getElem_cons_zero, List.setIfInBounds_toArray, List.set_cons_zero, List.set_cons_succ]
              refine wpAnyH_take (i := 3) (oi := _) (v := ?_) rfl (by kernel_rfl) (by kernel_rfl) (by kernel_rfl) (fun _ _ _ h => h) (Or.inl ⟨by rfl, ?_⟩) (by assumption) ?_
              rotate_left
              · (intro W hSw; obtain ⟨⟨c0, c1, c2, c3, c4, c5, c6, c7⟩, _⟩ := PG.cells hSw; dsimp only at c0 c1 c2 c3 c4 c5 c6 c7; have hgT := PG.hT hSw; have hgw := PG.hg hSw; go_simp; try with_reducible rfl)
              try simp only [Act.put, List.getElem_toArray, List.getElem_cons_succ, List.getElem_cons_zero, List.setIfInBounds_toArray, List.set_cons_zero, List.set_cons_succ]
              refine wpAnyH_ready (rs := [4]) (by kernel_rfl) (by simp) ?_
              refine AllReadyH.cons rfl (fun K hK => ?_) AllReadyH.nil
              simp only [List.getElem_toArray, List.getElem_cons_succ, List.getElem_cons_zero]
              rw [if_pos (by rfl)]
              go_simp
              refine (St15.right_6b (us : Int) (by omega) (by omega) _).mono ?_
              rintro _ wr1 ⟨rfl, br1⟩
              go_wp2_with fail
              refine hK.out _ _ (PG.below hHeld br1) (fun hHeld => ?_)
              clear hK K
              try simp only [Act.put, List.getElem_toArray, List.getElem_cons_succ, List.getElem_cons_zero, List.setIfInBounds_toArray, List.set_cons_zero, List.set_cons_succ]
              refine wpAnyH_take (i := 5) (oi := _) (v := ?_) rfl (by kernel_rfl) (by kernel_rfl) (by kernel_rfl) (fun _ _ _ h => h) (Or.inl ⟨by rfl, ?_⟩) (by assumption) ?_
              rotate_left
              · (intro W hSw; obtain ⟨⟨c0, c1, c2, c3, c4, c5, c6, c7⟩, _⟩ := PG.cells hSw; dsimp only at c0 c1 c2 c3 c4 c5 c6 c7; have hgT := PG.hT hSw; have hgw := PG.hg hSw; go_simp; try with_reducible rfl)
              try simp only [Act.put, List.getElem_toArray, List.getElem_cons_succ, List.getElem_cons_zero, List.setIfInBounds_toArray, List.set_cons_zero, List.set_cons_succ]
              obtain ⟨y0, hy0⟩ := PG.r hHeld
              have HRr := Lib.hid (setRow_heap (wr1) w.heap.size _ (⟨6, (us : Int), 0, 0, 0, 0, 0, ⟨#[]⟩⟩ : St).cells 26 (0, 0) hy0)
              refine wpAnyH_ready (rs := [6]) (by kernel_rfl) (by simp) ?_
              refine AllReadyH.cons rfl (fun K hK => ?_) AllReadyH.nil
              simp only [List.getElem_toArray, List.getElem_cons_succ, List.getElem_cons_zero]
              rw [if_pos (by rfl)]
              refine wp_store_row 26 _ _ rfl w.heap.size (⟨6, (us : Int), 0, 0, 0, 0, 0, ⟨#[]⟩⟩ : St).cells rfl rfl 26 _ hy0 (hi8 (⟨6, (us : Int), 0, 0, 0, 0, 0, ⟨#[]⟩⟩ : St)) rfl (cells8_one _) ?_
              refine hK.out _ _ (PG.setR hHeld) (fun hHeld => ?_)
              clear hK K
              try simp only [Act.put, List.setIfInBounds_toArray, List.set_cons_zero, List.set_cons_succ]
              refine wpAnyH_take (i := 7) (oi := _) (v := ?_) rfl (by kernel_rfl) (by kernel_rfl) (by kernel_rfl) (fun _ _ _ h => h) (Or.inl ⟨by rfl, ?_⟩) (by assumption) ?_
              rotate_left
              · (intro W hSw; skip; go_simp; try with_reducible rfl)
              try simp only [Act.put, List.getElem_toArray, List.getElem_cons_succ, List.getElem_cons_zero, List.setIfInBounds_toArray, List.set_cons_zero, List.set_cons_succ]
              refine wpAnyH_done (by kernel_rfl) ?_ _
              have hB9 := PG.b hHeld
              obtain ⟨W9, hW9⟩ : ∃ W9, W9 = (wr1).setRow w.heap.size (⟨6, (us : Int), 0, 0, 0, 0, 0, ⟨#[]⟩⟩ : St).cells := ⟨_, rfl⟩
              have HR' := HRr.out
              rw [← hW9] at HR' hB9 ⊢
              clear hW9 hy0 hHeld HRr
              go_wp2_with fail
              exact bodyPost_ret (res8p _ _ w.heap.size (⟨6, (us : Int), 0, 0, 0, 0, 0, ⟨#[]⟩⟩ : St) false rfl rfl HR') rfl ⟨.inr ⟨HE.out, (⟨6, (us : Int), 0, 0, 0, 0, 0, ⟨#[]⟩⟩ : St), rfl⟩, hB9⟩
            · have HE := Lib.hid (show strict (sp s.data.toList) = some (⟨6, (us : Int), (un : Int), 0, 0, 0, 0, ⟨#[]⟩⟩ : St) by rw [strict_three HK.out (show sp s.data.toList = _ by rw [← HXs.out]; exact three3 HM.out), hss]; show (sm _ 4).bind _ = _; rw [hsn]; exact if_neg hz)
              go_upto_region 28 with fail
              clear c0 c1 c2 c3 c4 c5 c6 c7 z0 z1 z2 z3 z4 z6 z7
              refine wp_region_held_drew (S := fun V => PG w V T g xs (⟨6, (us : Int), (un : Int), 0, 0, 0, 0, ⟨#[]⟩⟩ : St)) (by kernel_rfl) (HQ2.out.below (Below.refl _ _).drew) (fun hHeld => ?_)
              refine wpAnyH_take (i := 0) (oi := _) (v := ?_) rfl (by kernel_rfl) (by kernel_rfl) (by kernel_rfl) (fun _ _ _ h => h) (Or.inl ⟨by rfl, ?_⟩) (by assumption) ?_
              rotate_left
              · (intro W hSw; obtain ⟨⟨c0, c1, c2, c3, c4, c5, c6, c7⟩, _⟩ := PG.cells hSw; dsimp only at c0 c1 c2 c3 c4 c5 c6 c7; have hgT := PG.hT hSw; have hgw := PG.hg hSw; go_simp; try with_reducible rfl)
              try simp only [Act.put, List.getElem_toArray, List.getElem_cons_zero, List.setIfInBounds_toArray, List.set_cons_zero, List.set_cons_succ]
              refine wpAnyH_take (i := 1) (oi := _) (v := ?_) rfl (by kernel_rfl) (by kernel_rfl) (by kernel_rfl) (fun _ _ _ h => h) (Or.inl ⟨by rfl, ?_⟩) (by assumption) ?_
              rotate_left
              · (intro W hSw; obtain ⟨⟨c0, c1, c2, c3, c4, c5, c6, c7⟩, _⟩ := PG.cells hSw; dsimp only at c0 c1 c2 c3 c4 c5 c6 c7; have hgT := PG.hT hSw; have hgw := PG.hg hSw; go_simp; try with_reducible rfl)
              try simp only [Act.put, List.getElem_toArray, List.getElem_cons_succ, List.getElem_cons_zero, List.setIfInBounds_toArray, List.set_cons_zero, List.set_cons_succ]
              refine wpAnyH_take (i := 2) (oi := _) (v := ?_) rfl (by kernel_rfl) (by kernel_rfl) (by kernel_rfl) (fun _ _ _ h => h) (Or.inl ⟨by rfl, ?_⟩) (by assumption) ?_
              rotate_left
              · (intro W hSw; obtain ⟨⟨c0, c1, c2, c3, c4, c5, c6, c7⟩, _⟩ := PG.cells hSw; dsimp only at c0 c1 c2 c3 c4 c5 c6 c7; have hgT := PG.hT hSw; have hgw := PG.hg hSw; go_simp; try with_reducible rfl)
              try simp only [Act.put, List.getElem_toArray, List.getElem_cons_succ, List.getElem_cons_zero, List.setIfInBounds_toArray, List.set_cons_zero, List.set_cons_succ]
              refine wpAnyH_take (i := 3) (oi := _) (v := ?_) rfl (by kernel_rfl) (by kernel_rfl) (by kernel_rfl) (fun _ _ _ h => h) (Or.inl ⟨by rfl, ?_⟩) (by assumption) ?_
              rotate_left
              · (intro W hSw; obtain ⟨⟨c0, c1, c2, c3, c4, c5, c6, c7⟩, _⟩ := PG.cells hSw; dsimp only at c0 c1 c2 c3 c4 c5 c6 c7; have hgT := PG.hT hSw; have hgw := PG.hg hSw; go_simp; try with_reducible rfl)
              try simp only [Act.put, List.getElem_toArray, List.getElem_cons_succ, List.getElem_cons_zero, List.setIfInBounds_toArray, List.set_cons_zero, List.set_cons_succ]
              refine wpAnyH_ready (rs := [4]) (by kernel_rfl) (by simp) ?_
              refine AllReadyH.cons rfl (fun K hK => ?_) AllReadyH.nil
              simp only [List.getElem_toArray, List.getElem_cons_succ, List.getElem_cons_zero]
              rw [if_pos (by rfl)]
              go_simp
              refine (St15.right_6 (us : Int) (un : Int) (by omega) (by omega) (by omega) (by omega) _).mono ?_
              rintro _ wr1 ⟨rfl, br1⟩
              go_wp2_with fail
              refine hK.out _ _ (PG.below hHeld br1) (fun hHeld => ?_)
              clear hK K
              try simp only [Act.put, List.getElem_toArray, List.getElem_cons_succ, List.getElem_cons_zero, List.setIfInBounds_toArray, List.set_cons_zero, List.set_cons_succ]
              refine wpAnyH_take (i := 5) (oi := _) (v := ?_) rfl (by kernel_rfl) (by kernel_rfl) (by kernel_rfl) (fun _ _ _ h => h) (Or.inl ⟨by rfl, ?_⟩) (by assumption) ?_
              rotate_left
              · (intro W hSw; obtain ⟨⟨c0, c1, c2, c3, c4, c5, c6, c7⟩, _⟩ := PG.cells hSw; dsimp only at c0 c1 c2 c3 c4 c5 c6 c7; have hgT := PG.hT hSw; have hgw := PG.hg hSw; go_simp; try with_reducible rfl)
              try simp only [Act.put, List.getElem_toArray, List.getElem_cons_succ, List.getElem_cons_zero, List.setIfInBounds_toArray, List.set_cons_zero, List.set_cons_succ]
              obtain ⟨y0, hy0⟩ := PG.r hHeld
              have HRr := Lib.hid (setRow_heap (wr1) w.heap.size _ (⟨6, (us : Int), (un : Int), 0, 0, 0, 0, ⟨#[]⟩⟩ : St).cells 26 (0, 0) hy0)
              refine wpAnyH_ready (rs := [6]) (by kernel_rfl) (by simp) ?_
              refine AllReadyH.cons rfl (fun K hK => ?_) AllReadyH.nil
              simp only [List.getElem_toArray, List.getElem_cons_succ, List.getElem_cons_zero]
              rw [if_pos (by rfl)]
              refine wp_store_row 26 _ _ rfl w.heap.size (⟨6, (us : Int), (un : Int), 0, 0, 0, 0, ⟨#[]⟩⟩ : St).cells rfl rfl 26 _ hy0 (hi8 (⟨6, (us : Int), (un : Int), 0, 0, 0, 0, ⟨#[]⟩⟩ : St)) rfl (cells8_one _) ?_
              refine hK.out _ _ (PG.setR hHeld) (fun hHeld => ?_)
              clear hK K
              try simp only [Act.put, List.setIfInBounds_toArray, List.set_cons_zero, List.set_cons_succ]
              refine wpAnyH_take (i := 7) (oi := _) (v := ?_) rfl (by kernel_rfl) (by kernel_rfl) (by kernel_rfl) (fun _ _ _ h => h) (Or.inl ⟨by rfl, ?_⟩) (by assumption) ?_
              rotate_left
              · (intro W hSw; skip; go_simp; try with_reducible rfl)
              try simp only [Act.put, List.getElem_toArray, List.getElem_cons_succ, List.getElem_cons_zero, List.setIfInBounds_toArray, List.set_cons_zero, List.set_cons_succ]
              refine wpAnyH_done (by kernel_rfl) ?_ _
              have hB9 := PG.b hHeld
              obtain ⟨W9, hW9⟩ : ∃ W9, W9 = (wr1).setRow w.heap.size (⟨6, (us : Int), (un : Int), 0, 0, 0, 0, ⟨#[]⟩⟩ : St).cells := ⟨_, rfl⟩
              have HR' := HRr.out
              rw [← hW9] at HR' hB9 ⊢
              clear hW9 hy0 hHeld HRr
              go_wp2_with fail
              exact bodyPost_ret (res8p _ _ w.heap.size (⟨6, (us : Int), (un : Int), 0, 0, 0, 0, ⟨#[]⟩⟩ : St) true rfl rfl HR') rfl ⟨.inl ⟨(⟨6, (us : Int), (un : Int), 0, 0, 0, 0, ⟨#[]⟩⟩ : St), HE.out, rfl⟩, hB9⟩
      · have hm1 : ((xs.length : Int) == 3) = false := by rw [beq_eq_false_iff_ne]; omega
        have hm2 : ((xs.length : Int) != 3) = true := by rw [bne_iff_ne]; omega
        have HE := Lib.hid (strict_many HK.out (by decide) (show (sp s.data.toList).length ≠ manyK 6 by rw [← HXs.out, List.length_map]; exact hm))
        clear hm
        go_upto_region 13 with fail
        refine wp_region_lit ?_
        refine wpList_load_row rfl 26 _ rfl T rfl 26 (⟨6, 0, 0, 0, 0, 0, 0, ⟨#[]⟩⟩ : St).cells (0, 0) _ HP3.out.t Tryz.underlying26 rfl (hi8 (⟨6, 0, 0, 0, 0, 0, 0, ⟨#[]⟩⟩ : St)) ?_
        obtain ⟨y0, hy0⟩ := HP3.out.r
        refine wpList_store_rowTo rfl 26 _ _ rfl rfl w.heap.size (⟨6, 0, 0, 0, 0, 0, 0, ⟨#[]⟩⟩ : St).cells rfl rfl 26 _ hy0 (hi8 (⟨6, 0, 0, 0, 0, 0, 0, ⟨#[]⟩⟩ : St)) rfl (cells8_one _) ?_
        have HR' := setRow_heap w3 w.heap.size _ (⟨6, 0, 0, 0, 0, 0, 0, ⟨#[]⟩⟩ : St).cells 26 (0, 0) hy0
        have hB9 := (HP3.out.setR (y := (⟨6, 0, 0, 0, 0, 0, 0, ⟨#[]⟩⟩ : St))).b
        obtain ⟨W9, hW9⟩ : ∃ W9, W9 = w3.setRow w.heap.size (⟨6, 0, 0, 0, 0, 0, 0, ⟨#[]⟩⟩ : St).cells := ⟨_, rfl⟩
        rw [← hW9] at HR' hB9 ⊢
        clear hW9 hy0
        go_wp2_with fail
        exact bodyPost_ret (res8p _ _ w.heap.size (⟨6, 0, 0, 0, 0, 0, 0, ⟨#[]⟩⟩ : St) false rfl rfl HR') rfl ⟨.inr ⟨HE.out, (⟨6, 0, 0, 0, 0, 0, 0, ⟨#[]⟩⟩ : St), rfl⟩, hB9⟩

set_option maxHeartbeats 4000000 in
set_option maxRecDepth 100000 in
theorem rparse_7 (s : ByteArray) (hs : s.size ≤ 2000) (hk : kL ((sp s.data.toList).getD 0 []) = 7) (w : World) : Calls Tryz.prog 66 #[.string s] w fun e w' => pP s.data.toList e ∧ Below w.heap.size w w' := by
  have HS := Lib.hid hs
  have HK := Lib.hid hk
  clear hs hk
  go_enter Tryz.func66, Tryz.ntmps66
  go_wp2_with fail
  refine (words_any s (by have := HS.out; omega) _).mono ?_
  rintro _ w1 ⟨⟨v, xs, rfl, hown, hxs⟩, hb1⟩
  have hxn : xs ≠ [] := fun e => sp_ne s.data.toList (by rw [← hxs, e]; rfl)
  have HXn := Lib.hid hxn
  have HXs := Lib.hid hxs
  simp only [World.size_alloc] at hown
  obtain ⟨g, cap, rfl, hpg⟩ := PG.start (w := w) hb1 hown hxn
  have HP := Lib.hid hpg
  have HN := Lib.hid (List.length_pos_iff.2 hxn)
  have H0 : Hid (kL (gx xs 0).data.toList = 7) := Lib.hid (by
    have e : (gx xs 0).data.toList = (sp s.data.toList).getD 0 [] := by
      unfold gx
      rw [← hxs, List.getD_eq_getElem?_getD, List.getD_eq_getElem?_getD, List.getElem?_map]
      cases hx : xs[0]? with
      | none => exact absurd (List.getElem?_eq_none_iff.1 hx) (by have := HN.out; omega)
      | some a => rfl
    rw [e]; exact HK.out)
  clear hown hb1 hpg hxn hxs
  obtain ⟨T, hT⟩ : ∃ T, w1.heap.size = T := ⟨_, rfl⟩
  go_upto_region 3 with fail
  rw [hT] at HP
  obtain ⟨W2, hW2⟩ : ∃ W2, W2 = w1.alloc (.cells St0.cells 26) := ⟨_, rfl⟩
  have HP2 : Hid (PG w W2 T g xs St0) := by rw [hW2]; exact HP
  rw [show w1.alloc (.cells #[.int .i64 0, .int .i64 0, .int .i64 0, .int .i64 0, .int .i64 0, .int .u64 0, .int .u64 0, .string ⟨#[]⟩] 26) = W2 from hW2.symm]
  have hn0 : (0 : Int) < (xs.length : Int) := by have := HN.out; omega
  clear hW2 HP hT
  go_wp2_with fail
  go_loopw [6] (fun i wr => ∃ kq : Nat, i = .int .i64 (kq : Int) ∧ 1 ≤ kq ∧ kq ≤ 9 ∧ Hid (PG w wr T g xs (stK (kx 7 kq)))) (fun i _ => 9 - (RowKit.intOf i).toNat)
  case atStart => exact ⟨1, rfl, by omega, by omega, HP2⟩
  case round =>
    obtain ⟨kq, rfl, hk1, hk9, HP⟩ := hrel
    clear HP2
    by_cases h8 : kq ≤ 8
    · have hk8 : (kq : Int) ≤ 8 := by omega
      have hk0 : (0 : Int) ≤ (kq : Int) := by omega
      go_upto_region 6 with fail
      refine wp_region_held_drew (S := fun V => PG w V T g xs (stK (kx 7 kq))) (by kernel_rfl) (HP.out.below (Below.refl _ _).drew) (fun hHeld => ?_)
      refine wpAnyH_take (i := 0) (oi := _) (v := ?_) rfl (by kernel_rfl) (by kernel_rfl) (by kernel_rfl) (fun _ _ _ h => h) (Or.inl ⟨by rfl, ?_⟩) (by assumption) ?_
      rotate_left
      · (intro W hSw; obtain ⟨⟨c0, c1, c2, c3, c4, c5, c6, c7⟩, _⟩ := PG.cells hSw; have w0 := PG.row hSw 0 HN.out; have hn0n := HN.out; go_simp; try with_reducible rfl)
      try simp only [Act.put, List.getElem_toArray, List.getElem_cons_zero, List.setIfInBounds_toArray, List.set_cons_zero, List.set_cons_succ]
      refine wpAnyH_take (i := 2) (oi := _) (v := ?_) rfl (by kernel_rfl) (by kernel_rfl) (by kernel_rfl) (fun _ _ _ h => h) (Or.inl ⟨by rfl, ?_⟩) (by assumption) ?_
      rotate_left
      · (intro W hSw; obtain ⟨⟨c0, c1, c2, c3, c4, c5, c6, c7⟩, _⟩ := PG.cells hSw; have w0 := PG.row hSw 0 HN.out; have hn0n := HN.out; go_simp; try with_reducible rfl)
      try simp only [Act.put, List.getElem_toArray, List.getElem_cons_succ, List.getElem_cons_zero, List.setIfInBounds_toArray, List.set_cons_zero, List.set_cons_succ]
      refine wpAnyH_take (i := 3) (oi := _) (v := ?_) rfl (by kernel_rfl) (by kernel_rfl) (by kernel_rfl) (fun _ _ _ h => h) (Or.inl ⟨by rfl, ?_⟩) (by assumption) ?_
      rotate_left
      · (intro W hSw; obtain ⟨⟨c0, c1, c2, c3, c4, c5, c6, c7⟩, _⟩ := PG.cells hSw; have w0 := PG.row hSw 0 HN.out; have hn0n := HN.out; go_simp; try with_reducible rfl)
      try simp only [Act.put, List.getElem_toArray, List.getElem_cons_succ, List.getElem_cons_zero, List.setIfInBounds_toArray, List.set_cons_zero, List.set_cons_succ]
      refine wpAnyH_take (i := 4) (oi := _) (v := ?_) rfl (by kernel_rfl) (by kernel_rfl) (by kernel_rfl) (fun _ _ _ h => h) (Or.inl ⟨by rfl, ?_⟩) (by assumption) ?_
      rotate_left
      · (intro W hSw; obtain ⟨⟨c0, c1, c2, c3, c4, c5, c6, c7⟩, _⟩ := PG.cells hSw; have w0 := PG.row hSw 0 HN.out; have hn0n := HN.out; go_simp; try with_reducible rfl)
      try simp only [Act.put, List.getElem_toArray, List.getElem_cons_succ, List.getElem_cons_zero, List.setIfInBounds_toArray, List.set_cons_zero, List.set_cons_succ]
      refine wpAnyH_ready (rs := [1]) (by kernel_rfl) (by simp) ?_
      refine AllReadyH.cons rfl (fun K hK => ?_) AllReadyH.nil
      simp only [List.getElem_toArray, List.getElem_cons_succ, List.getElem_cons_zero]
      rw [if_pos (by rfl)]
      go_simp
      refine (rword_any kq hk1 h8 _).mono ?_
      rintro _ wb ⟨rfl, hb⟩
      go_wp2_with fail
      refine hK.out _ _ (PG.below hHeld hb) (fun hHeld => ?_)
      clear hK K
      try simp only [Act.put, List.getElem_toArray, List.getElem_cons_succ, List.getElem_cons_zero, List.setIfInBounds_toArray, List.set_cons_zero, List.set_cons_succ]
      refine wpAnyH_take (i := 5) (oi := _) (v := ?_) rfl (by kernel_rfl) (by kernel_rfl) (by kernel_rfl) (fun _ _ _ h => h) (Or.inl ⟨by rfl, ?_⟩) (by assumption) ?_
      rotate_left
      · (intro W hSw; obtain ⟨⟨c0, c1, c2, c3, c4, c5, c6, c7⟩, _⟩ := PG.cells hSw; have w0 := PG.row hSw 0 HN.out; have hn0n := HN.out; go_simp; try with_reducible rfl)
      try simp only [Act.put, List.getElem_toArray, List.getElem_cons_succ, List.getElem_cons_zero, List.setIfInBounds_toArray, List.set_cons_zero, List.set_cons_succ]
      refine wpAnyH_done (by kernel_rfl) ?_ _
      have HPb := Lib.hid hHeld
      clear hHeld HP
      by_cases he : kq = 7
      · subst he
        have e1 : ((wdB 7).toList == (gx xs 0).toList) = true := by
          rw [beq_iff_eq, ByteArray.toList_eq, ByteArray.toList_eq, wd_kL H0.out (by decide)]; rfl
        rw [e1]
        clear e1
        obtain ⟨⟨c0, c1, c2, c3, c4, c5, c6, c7⟩, z0, z1, z2, z3, z4, z6, z7⟩ := HPb.out.cells
        have hgT := HPb.out.hT
        clear hk1 hk9 h8 hk8 hk0
        go_wp2
        go_roundw
        case rel => exact ⟨7 + 1, by go_num, by omega, by omega, Lib.hid (HPb.out.set 0 _ rfl)⟩
        case measure => simp [RowKit.intOf]
      have e1 : ((wdB kq).toList == (gx xs 0).toList) = false := tl_ne fun e => he (by
        have := H0.out
        rw [← e] at this
        exact (kL_first hk1 h8 (by simp [wdB])).symm.trans this)
      rw [← kx_ne he] at HPb
      have HE9 := Lib.hid (And.intro hk1 h8)
      clear he hk1 hk9 h8
      rw [e1]
      clear e1
      go_wp2
      go_roundw
      case rel => exact ⟨kq + 1, by go_num, by omega, by have := HE9.out; omega, HPb⟩
      case measure => have := HE9.out; simp [RowKit.intOf]; omega
    · obtain rfl : kq = 9 := by omega
      rw [show stK (kx 7 9) = (⟨7, 0, 0, 0, 0, 0, 0, ⟨#[]⟩⟩ : St) from rfl] at HP
      clear h8 hk1 hk9
      obtain ⟨⟨c0, c1, c2, c3, c4, c5, c6, c7⟩, z0, z1, z2, z3, z4, z6, z7⟩ := HP.out.cells
      dsimp only at c0 c1 c2 c3 c4 c5 c6 c7
      go_wp2_with fail
      refine (St15.has_7 _).mono ?_
      rintro _ w3 ⟨rfl, hb3⟩
      have HP3 := Lib.hid (HP.out.below hb3)
      clear hb3 HP
      clear c0 c1 c2 c3 c4 c5 c6 c7 z0 z1 z2 z3 z4 z6 z7
      obtain ⟨⟨c0, c1, c2, c3, c4, c5, c6, c7⟩, z0, z1, z2, z3, z4, z6, z7⟩ := HP3.out.cells
      dsimp only at c0 c1 c2 c3 c4 c5 c6 c7
      go_wp2_with fail
      refine (St15.in_none_112 _).mono ?_
      rintro _ wq ⟨rfl, hq⟩
      obtain rfl := hq.symm
      clear hq
      by_cases hm : xs.length = 1
      · have hm1 : ((xs.length : Int) == 1) = true := by rw [hm]; rfl
        have hm2 : ((xs.length : Int) != 1) = false := by rw [hm]; rfl
        have HM := Lib.hid hm
        clear hm
        go_wp2_with fail
        refine (St15.in_none_115 _).mono ?_
        rintro _ wq ⟨rfl, hq⟩
        obtain rfl := hq.symm
        clear hq
        go_wp2_with fail
        refine (in_none_110 _).mono ?_
        rintro _ wq ⟨rfl, hq⟩
        obtain rfl := hq.symm
        clear hq
        go_wp2_with fail
        refine (St15.in_none_112 _).mono ?_
        rintro _ wq ⟨rfl, hq⟩
        obtain rfl := hq.symm
        clear hq
        have HE := Lib.hid (strict_one (k := 7) HK.out (by decide) (show sp s.data.toList = _ by rw [← HXs.out]; exact one1 HM.out))
        go_upto_region 28 with fail
        clear c0 c1 c2 c3 c4 c5 c6 c7 z0 z1 z2 z3 z4 z6 z7
        refine wp_region_held_drew (S := fun V => PG w V T g xs (⟨7, 0, 0, 0, 0, 0, 0, ⟨#[]⟩⟩ : St)) (by kernel_rfl) (HP3.out.below (Below.refl _ _).drew) (fun hHeld => ?_)
        refine wpAnyH_take (i := 0) (oi := _) (v := ?_) rfl (by kernel_rfl) (by kernel_rfl) (by kernel_rfl) (fun _ _ _ h => h) (Or.inl ⟨by rfl, ?_⟩) (by assumption) ?_
        rotate_left
        · (intro W hSw; obtain ⟨⟨c0, c1, c2, c3, c4, c5, c6, c7⟩, _⟩ := PG.cells hSw; dsimp only at c0 c1 c2 c3 c4 c5 c6 c7; have hgT := PG.hT hSw; have hgw := PG.hg hSw; go_simp; try with_reducible rfl)
        try simp only [Act.put, List.getElem_toArray, List.getElem_cons_zero, List.setIfInBounds_toArray, List.set_cons_zero, List.set_cons_succ]
        refine wpAnyH_take (i := 1) (oi := _) (v := ?_) rfl (by kernel_rfl) (by kernel_rfl) (by kernel_rfl) (fun _ _ _ h => h) (Or.inl ⟨by rfl, ?_⟩) (by assumption) ?_
        rotate_left
        · (intro W hSw; obtain ⟨⟨c0, c1, c2, c3, c4, c5, c6, c7⟩, _⟩ := PG.cells hSw; dsimp only at c0 c1 c2 c3 c4 c5 c6 c7; have hgT := PG.hT hSw; have hgw := PG.hg hSw; go_simp; try with_reducible rfl)
        try simp only [Act.put, List.getElem_toArray, List.getElem_cons_succ, List.getElem_cons_zero, List.setIfInBounds_toArray, List.set_cons_zero, List.set_cons_succ]
        refine wpAnyH_take (i := 2) (oi := _) (v := ?_) rfl (by kernel_rfl) (by kernel_rfl) (by kernel_rfl) (fun _ _ _ h => h) (Or.inl ⟨by rfl, ?_⟩) (by assumption) ?_
        rotate_left
        · (intro W hSw; obtain ⟨⟨c0, c1, c2, c3, c4, c5, c6, c7⟩, _⟩ := PG.cells hSw; dsimp only at c0 c1 c2 c3 c4 c5 c6 c7; have hgT := PG.hT hSw; have hgw := PG.hg hSw; go_simp; try with_reducible rfl)
        try simp only [Act.put, List.getElem_toArray, List.getElem_cons_succ, List.getElem_cons_zero, List.setIfInBounds_toArray, List.set_cons_zero, List.set_cons_succ]
        refine wpAnyH_take (i := 3) (oi := _) (v := ?_) rfl (by kernel_rfl) (by kernel_rfl) (by kernel_rfl) (fun _ _ _ h => h) (Or.inl ⟨by rfl, ?_⟩) (by assumption) ?_
        rotate_left
        · (intro W hSw; obtain ⟨⟨c0, c1, c2, c3, c4, c5, c6, c7⟩, _⟩ := PG.cells hSw; dsimp only at c0 c1 c2 c3 c4 c5 c6 c7; have hgT := PG.hT hSw; have hgw := PG.hg hSw; go_simp; try with_reducible rfl)
        try simp only [Act.put, List.getElem_toArray, List.getElem_cons_succ, List.getElem_cons_zero, List.setIfInBounds_toArray, List.set_cons_zero, List.set_cons_succ]
        refine wpAnyH_ready (rs := [4]) (by kernel_rfl) (by simp) ?_
        refine AllReadyH.cons rfl (fun K hK => ?_) AllReadyH.nil
        simp only [List.getElem_toArray, List.getElem_cons_succ, List.getElem_cons_zero]
        rw [if_pos (by rfl)]
        go_simp
        refine (St15.right_7 _).mono ?_
        rintro _ wr1 ⟨rfl, br1⟩
        go_wp2_with fail
        refine hK.out _ _ (PG.below hHeld br1) (fun hHeld => ?_)
        clear hK K
        try simp only [Act.put, List.getElem_toArray, List.getElem_cons_succ, List.getElem_cons_zero, List.setIfInBounds_toArray, List.set_cons_zero, List.set_cons_succ]
        refine wpAnyH_take (i := 5) (oi := _) (v := ?_) rfl (by kernel_rfl) (by kernel_rfl) (by kernel_rfl) (fun _ _ _ h => h) (Or.inl ⟨by rfl, ?_⟩) (by assumption) ?_
        rotate_left
        · (intro W hSw; obtain ⟨⟨c0, c1, c2, c3, c4, c5, c6, c7⟩, _⟩ := PG.cells hSw; dsimp only at c0 c1 c2 c3 c4 c5 c6 c7; have hgT := PG.hT hSw; have hgw := PG.hg hSw; go_simp; try with_reducible rfl)
        try simp only [Act.put, List.getElem_toArray, List.getElem_cons_succ, List.getElem_cons_zero, List.setIfInBounds_toArray, List.set_cons_zero, List.set_cons_succ]
        obtain ⟨y0, hy0⟩ := PG.r hHeld
        have HRr := Lib.hid (setRow_heap (wr1) w.heap.size _ (⟨7, 0, 0, 0, 0, 0, 0, ⟨#[]⟩⟩ : St).cells 26 (0, 0) hy0)
        refine wpAnyH_ready (rs := [6]) (by kernel_rfl) (by simp) ?_
        refine AllReadyH.cons rfl (fun K hK => ?_) AllReadyH.nil
        simp only [List.getElem_toArray, List.getElem_cons_succ, List.getElem_cons_zero]
        rw [if_pos (by rfl)]
        refine wp_store_row 26 _ _ rfl w.heap.size (⟨7, 0, 0, 0, 0, 0, 0, ⟨#[]⟩⟩ : St).cells rfl rfl 26 _ hy0 (hi8 (⟨7, 0, 0, 0, 0, 0, 0, ⟨#[]⟩⟩ : St)) rfl (cells8_one _) ?_
        refine hK.out _ _ (PG.setR hHeld) (fun hHeld => ?_)
        clear hK K
        try simp only [Act.put, List.setIfInBounds_toArray, List.set_cons_zero, List.set_cons_succ]
        refine wpAnyH_take (i := 7) (oi := _) (v := ?_) rfl (by kernel_rfl) (by kernel_rfl) (by kernel_rfl) (fun _ _ _ h => h) (Or.inl ⟨by rfl, ?_⟩) (by assumption) ?_
        rotate_left
        · (intro W hSw; skip; go_simp; try with_reducible rfl)
        try simp only [Act.put, List.getElem_toArray, List.getElem_cons_succ, List.getElem_cons_zero, List.setIfInBounds_toArray, List.set_cons_zero, List.set_cons_succ]
        refine wpAnyH_done (by kernel_rfl) ?_ _
        have hB9 := PG.b hHeld
        obtain ⟨W9, hW9⟩ : ∃ W9, W9 = (wr1).setRow w.heap.size (⟨7, 0, 0, 0, 0, 0, 0, ⟨#[]⟩⟩ : St).cells := ⟨_, rfl⟩
        have HR' := HRr.out
        rw [← hW9] at HR' hB9 ⊢
        clear hW9 hy0 hHeld HRr
        go_wp2_with fail
        exact bodyPost_ret (res8p _ _ w.heap.size (⟨7, 0, 0, 0, 0, 0, 0, ⟨#[]⟩⟩ : St) true rfl rfl HR') rfl ⟨.inl ⟨(⟨7, 0, 0, 0, 0, 0, 0, ⟨#[]⟩⟩ : St), HE.out, rfl⟩, hB9⟩
      · have hm1 : ((xs.length : Int) == 1) = false := by rw [beq_eq_false_iff_ne]; omega
        have hm2 : ((xs.length : Int) != 1) = true := by rw [bne_iff_ne]; omega
        have HE := Lib.hid (strict_many HK.out (by decide) (show (sp s.data.toList).length ≠ manyK 7 by rw [← HXs.out, List.length_map]; exact hm))
        clear hm
        go_upto_region 13 with fail
        refine wp_region_lit ?_
        refine wpList_load_row rfl 26 _ rfl T rfl 26 (⟨7, 0, 0, 0, 0, 0, 0, ⟨#[]⟩⟩ : St).cells (0, 0) _ HP3.out.t Tryz.underlying26 rfl (hi8 (⟨7, 0, 0, 0, 0, 0, 0, ⟨#[]⟩⟩ : St)) ?_
        obtain ⟨y0, hy0⟩ := HP3.out.r
        refine wpList_store_rowTo rfl 26 _ _ rfl rfl w.heap.size (⟨7, 0, 0, 0, 0, 0, 0, ⟨#[]⟩⟩ : St).cells rfl rfl 26 _ hy0 (hi8 (⟨7, 0, 0, 0, 0, 0, 0, ⟨#[]⟩⟩ : St)) rfl (cells8_one _) ?_
        have HR' := setRow_heap w3 w.heap.size _ (⟨7, 0, 0, 0, 0, 0, 0, ⟨#[]⟩⟩ : St).cells 26 (0, 0) hy0
        have hB9 := (HP3.out.setR (y := (⟨7, 0, 0, 0, 0, 0, 0, ⟨#[]⟩⟩ : St))).b
        obtain ⟨W9, hW9⟩ : ∃ W9, W9 = w3.setRow w.heap.size (⟨7, 0, 0, 0, 0, 0, 0, ⟨#[]⟩⟩ : St).cells := ⟨_, rfl⟩
        rw [← hW9] at HR' hB9 ⊢
        clear hW9 hy0
        go_wp2_with fail
        exact bodyPost_ret (res8p _ _ w.heap.size (⟨7, 0, 0, 0, 0, 0, 0, ⟨#[]⟩⟩ : St) false rfl rfl HR') rfl ⟨.inr ⟨HE.out, (⟨7, 0, 0, 0, 0, 0, 0, ⟨#[]⟩⟩ : St), rfl⟩, hB9⟩

set_option maxHeartbeats 4000000 in
set_option maxRecDepth 100000 in
theorem rparse_8 (s : ByteArray) (hs : s.size ≤ 2000) (hk : kL ((sp s.data.toList).getD 0 []) = 8) (w : World) : Calls Tryz.prog 66 #[.string s] w fun e w' => pP s.data.toList e ∧ Below w.heap.size w w' := by
  have HS := Lib.hid hs
  have HK := Lib.hid hk
  clear hs hk
  go_enter Tryz.func66, Tryz.ntmps66
  go_wp2_with fail
  refine (words_any s (by have := HS.out; omega) _).mono ?_
  rintro _ w1 ⟨⟨v, xs, rfl, hown, hxs⟩, hb1⟩
  have hxn : xs ≠ [] := fun e => sp_ne s.data.toList (by rw [← hxs, e]; rfl)
  have HXn := Lib.hid hxn
  have HXs := Lib.hid hxs
  simp only [World.size_alloc] at hown
  obtain ⟨g, cap, rfl, hpg⟩ := PG.start (w := w) hb1 hown hxn
  have HP := Lib.hid hpg
  have HN := Lib.hid (List.length_pos_iff.2 hxn)
  have H0 : Hid (kL (gx xs 0).data.toList = 8) := Lib.hid (by
    have e : (gx xs 0).data.toList = (sp s.data.toList).getD 0 [] := by
      unfold gx
      rw [← hxs, List.getD_eq_getElem?_getD, List.getD_eq_getElem?_getD, List.getElem?_map]
      cases hx : xs[0]? with
      | none => exact absurd (List.getElem?_eq_none_iff.1 hx) (by have := HN.out; omega)
      | some a => rfl
    rw [e]; exact HK.out)
  clear hown hb1 hpg hxn hxs
  obtain ⟨T, hT⟩ : ∃ T, w1.heap.size = T := ⟨_, rfl⟩
  go_upto_region 3 with fail
  rw [hT] at HP
  obtain ⟨W2, hW2⟩ : ∃ W2, W2 = w1.alloc (.cells St0.cells 26) := ⟨_, rfl⟩
  have HP2 : Hid (PG w W2 T g xs St0) := by rw [hW2]; exact HP
  rw [show w1.alloc (.cells #[.int .i64 0, .int .i64 0, .int .i64 0, .int .i64 0, .int .i64 0, .int .u64 0, .int .u64 0, .string ⟨#[]⟩] 26) = W2 from hW2.symm]
  have hn0 : (0 : Int) < (xs.length : Int) := by have := HN.out; omega
  clear hW2 HP hT
  go_wp2_with fail
  go_loopw [6] (fun i wr => ∃ kq : Nat, i = .int .i64 (kq : Int) ∧ 1 ≤ kq ∧ kq ≤ 9 ∧ Hid (PG w wr T g xs (stK (kx 8 kq)))) (fun i _ => 9 - (RowKit.intOf i).toNat)
  case atStart => exact ⟨1, rfl, by omega, by omega, HP2⟩
  case round =>
    obtain ⟨kq, rfl, hk1, hk9, HP⟩ := hrel
    clear HP2
    by_cases h8 : kq ≤ 8
    · have hk8 : (kq : Int) ≤ 8 := by omega
      have hk0 : (0 : Int) ≤ (kq : Int) := by omega
      go_upto_region 6 with fail
      refine wp_region_held_drew (S := fun V => PG w V T g xs (stK (kx 8 kq))) (by kernel_rfl) (HP.out.below (Below.refl _ _).drew) (fun hHeld => ?_)
      refine wpAnyH_take (i := 0) (oi := _) (v := ?_) rfl (by kernel_rfl) (by kernel_rfl) (by kernel_rfl) (fun _ _ _ h => h) (Or.inl ⟨by rfl, ?_⟩) (by assumption) ?_
      rotate_left
      · (intro W hSw; obtain ⟨⟨c0, c1, c2, c3, c4, c5, c6, c7⟩, _⟩ := PG.cells hSw; have w0 := PG.row hSw 0 HN.out; have hn0n := HN.out; go_simp; try with_reducible rfl)
      try simp only [Act.put, List.getElem_toArray, List.getElem_cons_zero, List.setIfInBounds_toArray, List.set_cons_zero, List.set_cons_succ]
      refine wpAnyH_take (i := 2) (oi := _) (v := ?_) rfl (by kernel_rfl) (by kernel_rfl) (by kernel_rfl) (fun _ _ _ h => h) (Or.inl ⟨by rfl, ?_⟩) (by assumption) ?_
      rotate_left
      · (intro W hSw; obtain ⟨⟨c0, c1, c2, c3, c4, c5, c6, c7⟩, _⟩ := PG.cells hSw; have w0 := PG.row hSw 0 HN.out; have hn0n := HN.out; go_simp; try with_reducible rfl)
      try simp only [Act.put, List.getElem_toArray, List.getElem_cons_succ, List.getElem_cons_zero, List.setIfInBounds_toArray, List.set_cons_zero, List.set_cons_succ]
      refine wpAnyH_take (i := 3) (oi := _) (v := ?_) rfl (by kernel_rfl) (by kernel_rfl) (by kernel_rfl) (fun _ _ _ h => h) (Or.inl ⟨by rfl, ?_⟩) (by assumption) ?_
      rotate_left
      · (intro W hSw; obtain ⟨⟨c0, c1, c2, c3, c4, c5, c6, c7⟩, _⟩ := PG.cells hSw; have w0 := PG.row hSw 0 HN.out; have hn0n := HN.out; go_simp; try with_reducible rfl)
      try simp only [Act.put, List.getElem_toArray, List.getElem_cons_succ, List.getElem_cons_zero, List.setIfInBounds_toArray, List.set_cons_zero, List.set_cons_succ]
      refine wpAnyH_take (i := 4) (oi := _) (v := ?_) rfl (by kernel_rfl) (by kernel_rfl) (by kernel_rfl) (fun _ _ _ h => h) (Or.inl ⟨by rfl, ?_⟩) (by assumption) ?_
      rotate_left
      · (intro W hSw; obtain ⟨⟨c0, c1, c2, c3, c4, c5, c6, c7⟩, _⟩ := PG.cells hSw; have w0 := PG.row hSw 0 HN.out; have hn0n := HN.out; go_simp; try with_reducible rfl)
      try simp only [Act.put, List.getElem_toArray, List.getElem_cons_succ, List.getElem_cons_zero, List.setIfInBounds_toArray, List.set_cons_zero, List.set_cons_succ]
      refine wpAnyH_ready (rs := [1]) (by kernel_rfl) (by simp) ?_
      refine AllReadyH.cons rfl (fun K hK => ?_) AllReadyH.nil
      simp only [List.getElem_toArray, List.getElem_cons_succ, List.getElem_cons_zero]
      rw [if_pos (by rfl)]
      go_simp
      refine (rword_any kq hk1 h8 _).mono ?_
      rintro _ wb ⟨rfl, hb⟩
      go_wp2_with fail
      refine hK.out _ _ (PG.below hHeld hb) (fun hHeld => ?_)
      clear hK K
      try simp only [Act.put, List.getElem_toArray, List.getElem_cons_succ, List.getElem_cons_zero, List.setIfInBounds_toArray, List.set_cons_zero, List.set_cons_succ]
      refine wpAnyH_take (i := 5) (oi := _) (v := ?_) rfl (by kernel_rfl) (by kernel_rfl) (by kernel_rfl) (fun _ _ _ h => h) (Or.inl ⟨by rfl, ?_⟩) (by assumption) ?_
      rotate_left
      · (intro W hSw; obtain ⟨⟨c0, c1, c2, c3, c4, c5, c6, c7⟩, _⟩ := PG.cells hSw; have w0 := PG.row hSw 0 HN.out; have hn0n := HN.out; go_simp; try with_reducible rfl)
      try simp only [Act.put, List.getElem_toArray, List.getElem_cons_succ, List.getElem_cons_zero, List.setIfInBounds_toArray, List.set_cons_zero, List.set_cons_succ]
      refine wpAnyH_done (by kernel_rfl) ?_ _
      have HPb := Lib.hid hHeld
      clear hHeld HP
      by_cases he : kq = 8
      · subst he
        have e1 : ((wdB 8).toList == (gx xs 0).toList) = true := by
          rw [beq_iff_eq, ByteArray.toList_eq, ByteArray.toList_eq, wd_kL H0.out (by decide)]; rfl
        rw [e1]
        clear e1
        obtain ⟨⟨c0, c1, c2, c3, c4, c5, c6, c7⟩, z0, z1, z2, z3, z4, z6, z7⟩ := HPb.out.cells
        have hgT := HPb.out.hT
        clear hk1 hk9 h8 hk8 hk0
        go_wp2
        go_roundw
        case rel => exact ⟨8 + 1, by go_num, by omega, by omega, Lib.hid (HPb.out.set 0 _ rfl)⟩
        case measure => simp [RowKit.intOf]
      have e1 : ((wdB kq).toList == (gx xs 0).toList) = false := tl_ne fun e => he (by
        have := H0.out
        rw [← e] at this
        exact (kL_first hk1 h8 (by simp [wdB])).symm.trans this)
      rw [← kx_ne he] at HPb
      have HE9 := Lib.hid (And.intro hk1 h8)
      clear he hk1 hk9 h8
      rw [e1]
      clear e1
      go_wp2
      go_roundw
      case rel => exact ⟨kq + 1, by go_num, by omega, by have := HE9.out; omega, HPb⟩
      case measure => have := HE9.out; simp [RowKit.intOf]; omega
    · obtain rfl : kq = 9 := by omega
      rw [show stK (kx 8 9) = (⟨8, 0, 0, 0, 0, 0, 0, ⟨#[]⟩⟩ : St) from rfl] at HP
      clear h8 hk1 hk9
      obtain ⟨⟨c0, c1, c2, c3, c4, c5, c6, c7⟩, z0, z1, z2, z3, z4, z6, z7⟩ := HP.out.cells
      dsimp only at c0 c1 c2 c3 c4 c5 c6 c7
      go_wp2_with fail
      refine (St15.has_8 _).mono ?_
      rintro _ w3 ⟨rfl, hb3⟩
      have HP3 := Lib.hid (HP.out.below hb3)
      clear hb3 HP
      clear c0 c1 c2 c3 c4 c5 c6 c7 z0 z1 z2 z3 z4 z6 z7
      obtain ⟨⟨c0, c1, c2, c3, c4, c5, c6, c7⟩, z0, z1, z2, z3, z4, z6, z7⟩ := HP3.out.cells
      dsimp only at c0 c1 c2 c3 c4 c5 c6 c7
      go_wp2_with fail
      refine (St15.in_none_112 _).mono ?_
      rintro _ wq ⟨rfl, hq⟩
      obtain rfl := hq.symm
      clear hq
      by_cases hm : xs.length = 1
      · have hm1 : ((xs.length : Int) == 1) = true := by rw [hm]; rfl
        have hm2 : ((xs.length : Int) != 1) = false := by rw [hm]; rfl
        have HM := Lib.hid hm
        clear hm
        go_wp2_with fail
        refine (St15.in_none_115 _).mono ?_
        rintro _ wq ⟨rfl, hq⟩
        obtain rfl := hq.symm
        clear hq
        go_wp2_with fail
        refine (in_none_110 _).mono ?_
        rintro _ wq ⟨rfl, hq⟩
        obtain rfl := hq.symm
        clear hq
        go_wp2_with fail
        refine (St15.in_none_112 _).mono ?_
        rintro _ wq ⟨rfl, hq⟩
        obtain rfl := hq.symm
        clear hq
        have HE := Lib.hid (strict_one (k := 8) HK.out (by decide) (show sp s.data.toList = _ by rw [← HXs.out]; exact one1 HM.out))
        go_upto_region 28 with fail
        clear c0 c1 c2 c3 c4 c5 c6 c7 z0 z1 z2 z3 z4 z6 z7
        refine wp_region_held_drew (S := fun V => PG w V T g xs (⟨8, 0, 0, 0, 0, 0, 0, ⟨#[]⟩⟩ : St)) (by kernel_rfl) (HP3.out.below (Below.refl _ _).drew) (fun hHeld => ?_)
        refine wpAnyH_take (i := 0) (oi := _) (v := ?_) rfl (by kernel_rfl) (by kernel_rfl) (by kernel_rfl) (fun _ _ _ h => h) (Or.inl ⟨by rfl, ?_⟩) (by assumption) ?_
        rotate_left
        · (intro W hSw; obtain ⟨⟨c0, c1, c2, c3, c4, c5, c6, c7⟩, _⟩ := PG.cells hSw; dsimp only at c0 c1 c2 c3 c4 c5 c6 c7; have hgT := PG.hT hSw; have hgw := PG.hg hSw; go_simp; try with_reducible rfl)
        try simp only [Act.put, List.getElem_toArray, List.getElem_cons_zero, List.setIfInBounds_toArray, List.set_cons_zero, List.set_cons_succ]
        refine wpAnyH_take (i := 1) (oi := _) (v := ?_) rfl (by kernel_rfl) (by kernel_rfl) (by kernel_rfl) (fun _ _ _ h => h) (Or.inl ⟨by rfl, ?_⟩) (by assumption) ?_
        rotate_left
        · (intro W hSw; obtain ⟨⟨c0, c1, c2, c3, c4, c5, c6, c7⟩, _⟩ := PG.cells hSw; dsimp only at c0 c1 c2 c3 c4 c5 c6 c7; have hgT := PG.hT hSw; have hgw := PG.hg hSw; go_simp; try with_reducible rfl)
        try simp only [Act.put, List.getElem_toArray, List.getElem_cons_succ, List.getElem_cons_zero, List.setIfInBounds_toArray, List.set_cons_zero, List.set_cons_succ]
        refine wpAnyH_take (i := 2) (oi := _) (v := ?_) rfl (by kernel_rfl) (by kernel_rfl) (by kernel_rfl) (fun _ _ _ h => h) (Or.inl ⟨by rfl, ?_⟩) (by assumption) ?_
        rotate_left
        · (intro W hSw; obtain ⟨⟨c0, c1, c2, c3, c4, c5, c6, c7⟩, _⟩ := PG.cells hSw; dsimp only at c0 c1 c2 c3 c4 c5 c6 c7; have hgT := PG.hT hSw; have hgw := PG.hg hSw; go_simp; try with_reducible rfl)
        try simp only [Act.put, List.getElem_toArray, List.getElem_cons_succ, List.getElem_cons_zero, List.setIfInBounds_toArray, List.set_cons_zero, List.set_cons_succ]
        refine wpAnyH_take (i := 3) (oi := _) (v := ?_) rfl (by kernel_rfl) (by kernel_rfl) (by kernel_rfl) (fun _ _ _ h => h) (Or.inl ⟨by rfl, ?_⟩) (by assumption) ?_
        rotate_left
        · (intro W hSw; obtain ⟨⟨c0, c1, c2, c3, c4, c5, c6, c7⟩, _⟩ := PG.cells hSw; dsimp only at c0 c1 c2 c3 c4 c5 c6 c7; have hgT := PG.hT hSw; have hgw := PG.hg hSw; go_simp; try with_reducible rfl)
        try simp only [Act.put, List.getElem_toArray, List.getElem_cons_succ, List.getElem_cons_zero, List.setIfInBounds_toArray, List.set_cons_zero, List.set_cons_succ]
        refine wpAnyH_ready (rs := [4]) (by kernel_rfl) (by simp) ?_
        refine AllReadyH.cons rfl (fun K hK => ?_) AllReadyH.nil
        simp only [List.getElem_toArray, List.getElem_cons_succ, List.getElem_cons_zero]
        rw [if_pos (by rfl)]
        go_simp
        refine (St15.right_8 _).mono ?_
        rintro _ wr1 ⟨rfl, br1⟩
        go_wp2_with fail
        refine hK.out _ _ (PG.below hHeld br1) (fun hHeld => ?_)
        clear hK K
        try simp only [Act.put, List.getElem_toArray, List.getElem_cons_succ, List.getElem_cons_zero, List.setIfInBounds_toArray, List.set_cons_zero, List.set_cons_succ]
        refine wpAnyH_take (i := 5) (oi := _) (v := ?_) rfl (by kernel_rfl) (by kernel_rfl) (by kernel_rfl) (fun _ _ _ h => h) (Or.inl ⟨by rfl, ?_⟩) (by assumption) ?_
        rotate_left
        · (intro W hSw; obtain ⟨⟨c0, c1, c2, c3, c4, c5, c6, c7⟩, _⟩ := PG.cells hSw; dsimp only at c0 c1 c2 c3 c4 c5 c6 c7; have hgT := PG.hT hSw; have hgw := PG.hg hSw; go_simp; try with_reducible rfl)
        try simp only [Act.put, List.getElem_toArray, List.getElem_cons_succ, List.getElem_cons_zero, List.setIfInBounds_toArray, List.set_cons_zero, List.set_cons_succ]
        obtain ⟨y0, hy0⟩ := PG.r hHeld
        have HRr := Lib.hid (setRow_heap (wr1) w.heap.size _ (⟨8, 0, 0, 0, 0, 0, 0, ⟨#[]⟩⟩ : St).cells 26 (0, 0) hy0)
        refine wpAnyH_ready (rs := [6]) (by kernel_rfl) (by simp) ?_
        refine AllReadyH.cons rfl (fun K hK => ?_) AllReadyH.nil
        simp only [List.getElem_toArray, List.getElem_cons_succ, List.getElem_cons_zero]
        rw [if_pos (by rfl)]
        refine wp_store_row 26 _ _ rfl w.heap.size (⟨8, 0, 0, 0, 0, 0, 0, ⟨#[]⟩⟩ : St).cells rfl rfl 26 _ hy0 (hi8 (⟨8, 0, 0, 0, 0, 0, 0, ⟨#[]⟩⟩ : St)) rfl (cells8_one _) ?_
        refine hK.out _ _ (PG.setR hHeld) (fun hHeld => ?_)
        clear hK K
        try simp only [Act.put, List.setIfInBounds_toArray, List.set_cons_zero, List.set_cons_succ]
        refine wpAnyH_take (i := 7) (oi := _) (v := ?_) rfl (by kernel_rfl) (by kernel_rfl) (by kernel_rfl) (fun _ _ _ h => h) (Or.inl ⟨by rfl, ?_⟩) (by assumption) ?_
        rotate_left
        · (intro W hSw; skip; go_simp; try with_reducible rfl)
        try simp only [Act.put, List.getElem_toArray, List.getElem_cons_succ, List.getElem_cons_zero, List.setIfInBounds_toArray, List.set_cons_zero, List.set_cons_succ]
        refine wpAnyH_done (by kernel_rfl) ?_ _
        have hB9 := PG.b hHeld
        obtain ⟨W9, hW9⟩ : ∃ W9, W9 = (wr1).setRow w.heap.size (⟨8, 0, 0, 0, 0, 0, 0, ⟨#[]⟩⟩ : St).cells := ⟨_, rfl⟩
        have HR' := HRr.out
        rw [← hW9] at HR' hB9 ⊢
        clear hW9 hy0 hHeld HRr
        go_wp2_with fail
        exact bodyPost_ret (res8p _ _ w.heap.size (⟨8, 0, 0, 0, 0, 0, 0, ⟨#[]⟩⟩ : St) true rfl rfl HR') rfl ⟨.inl ⟨(⟨8, 0, 0, 0, 0, 0, 0, ⟨#[]⟩⟩ : St), HE.out, rfl⟩, hB9⟩
      · have hm1 : ((xs.length : Int) == 1) = false := by rw [beq_eq_false_iff_ne]; omega
        have hm2 : ((xs.length : Int) != 1) = true := by rw [bne_iff_ne]; omega
        have HE := Lib.hid (strict_many HK.out (by decide) (show (sp s.data.toList).length ≠ manyK 8 by rw [← HXs.out, List.length_map]; exact hm))
        clear hm
        go_upto_region 13 with fail
        refine wp_region_lit ?_
        refine wpList_load_row rfl 26 _ rfl T rfl 26 (⟨8, 0, 0, 0, 0, 0, 0, ⟨#[]⟩⟩ : St).cells (0, 0) _ HP3.out.t Tryz.underlying26 rfl (hi8 (⟨8, 0, 0, 0, 0, 0, 0, ⟨#[]⟩⟩ : St)) ?_
        obtain ⟨y0, hy0⟩ := HP3.out.r
        refine wpList_store_rowTo rfl 26 _ _ rfl rfl w.heap.size (⟨8, 0, 0, 0, 0, 0, 0, ⟨#[]⟩⟩ : St).cells rfl rfl 26 _ hy0 (hi8 (⟨8, 0, 0, 0, 0, 0, 0, ⟨#[]⟩⟩ : St)) rfl (cells8_one _) ?_
        have HR' := setRow_heap w3 w.heap.size _ (⟨8, 0, 0, 0, 0, 0, 0, ⟨#[]⟩⟩ : St).cells 26 (0, 0) hy0
        have hB9 := (HP3.out.setR (y := (⟨8, 0, 0, 0, 0, 0, 0, ⟨#[]⟩⟩ : St))).b
        obtain ⟨W9, hW9⟩ : ∃ W9, W9 = w3.setRow w.heap.size (⟨8, 0, 0, 0, 0, 0, 0, ⟨#[]⟩⟩ : St).cells := ⟨_, rfl⟩
        rw [← hW9] at HR' hB9 ⊢
        clear hW9 hy0
        go_wp2_with fail
        exact bodyPost_ret (res8p _ _ w.heap.size (⟨8, 0, 0, 0, 0, 0, 0, ⟨#[]⟩⟩ : St) false rfl rfl HR') rfl ⟨.inr ⟨HE.out, (⟨8, 0, 0, 0, 0, 0, 0, ⟨#[]⟩⟩ : St), rfl⟩, hB9⟩

theorem rparse_any (s : ByteArray) (hs : s.size ≤ 2000) (w : World) : Calls Tryz.prog 66 #[.string s] w fun e w' => pP s.data.toList e ∧ Below w.heap.size w w' := by
  have h8 := kL_le ((sp s.data.toList).getD 0 [])
  rcases hk : kL ((sp s.data.toList).getD 0 []) with _ | _ | _ | _ | _ | _ | _ | _ | _ | k
  · exact rparse_0 s hs hk w
  · exact rparse_1 s hs hk w
  · exact rparse_2 s hs hk w
  · exact rparse_3 s hs hk w
  · exact rparse_4 s hs hk w
  · exact rparse_5 s hs hk w
  · exact rparse_6 s hs hk w
  · exact rparse_7 s hs hk w
  · exact rparse_8 s hs hk w
  · omega

end Go.Proofs.YtnjcenbmdcogpaaGreatDoor.Sp
