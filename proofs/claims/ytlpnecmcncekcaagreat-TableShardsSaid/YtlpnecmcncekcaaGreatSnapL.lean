import Derived.Test.YtlpnecmcncekcaaGreatShardMath
import Derived.Test.YtlpnecmcncekcaaGreatSortTiny
import Derived.Test.YtlpnecmcncekcaaGreatStRow
/- Which of two entries of a row is ahead: Snapshot's closure. -/
namespace Go.Proofs.YtlpnecmcncekcaaGreat.Mk
open Go Go.RowKit

/-- the entry i of the row in block g stands under the key k -/
structure KeyAt (V : World) (g i : Nat) (k : K3) : Prop where
  c : V.cell? ⟨g, i * 5, none⟩ = some (.int .i64 k.c)
  f : V.cell? ⟨g, i * 5 + 1, none⟩ = some (.int .i64 k.f)
  s : V.cell? ⟨g, i * 5 + 2, none⟩ = some (.int .u64 k.s)
set_option maxRecDepth 20000 in
set_option maxHeartbeats 2000000 in
theorem snapLess (X g n c i j : Nat) (a b : K3) (W : World) (hX : W.heap[X]? = some (.cells #[.slice (some ⟨g, 0, none⟩) n c] 35 (0, 0))) (ha : KeyAt W g i a) (hb : KeyAt W g j b) (hi : i < n) (hj : j < n) :
    Calls Tryz.prog 48 #[.int .i64 i, .int .i64 j, .pointer (some ⟨X, 0, none⟩)] W fun e w' => e = .returned (.bool (ltK a b)) ∧ Below W.heap.size W w' := by
  have HL := Lib.hid (less_any a b W.drew)
  generalize ltK a b = r at HL ⊢
  obtain ⟨a1, a2, a3⟩ := a
  obtain ⟨b1, b2, b3⟩ := b
  unfold K3.val at HL
  have i0 : ¬ ((i : Int) < 0) := by omega
  have j0 : ¬ ((j : Int) < 0) := by omega
  go_enter Tryz.func48, Tryz.ntmps48
  go_upto_region 1 with fail
  refine wp_region_held_drew (S := (fun V => V.heap[X]? = some (.cells #[.slice (some ⟨g, 0, none⟩) n c] 35 (0, 0)) ∧ KeyAt V g i ⟨a1, a2, a3⟩ ∧ KeyAt V g j ⟨b1, b2, b3⟩)) (by kernel_rfl) ⟨hX, ⟨ha.c, ha.f, ha.s⟩, ⟨hb.c, hb.f, hb.s⟩⟩ (fun hHeld => ?_)
  refine wpAnyH_take (i := 0) (oi := _) (v := ?_) rfl (by kernel_rfl) (by kernel_rfl) (by kernel_rfl) (fun _ _ _ h => h) (Or.inl ⟨by rfl, ?_⟩) (by assumption) ?_
  rotate_left
  · (intro V hSw; have qx := cell_of_row V X 0 _ _ (0, 0) hSw.1; have q0 := hSw.2.1.c; have q1 := hSw.2.1.f; have q2 := hSw.2.1.s; have r0 := hSw.2.2.c; have r1 := hSw.2.2.f; have r2 := hSw.2.2.s; clear hSw; go_simp; try with_reducible rfl)
  try simp only [Act.put, List.getElem_toArray, List.getElem_cons_zero, List.setIfInBounds_toArray, List.set_cons_zero, List.set_cons_succ]
  refine wpAnyH_take (i := 1) (oi := _) (v := ?_) rfl (by kernel_rfl) (by kernel_rfl) (by kernel_rfl) (fun _ _ _ h => h) (Or.inl ⟨by rfl, ?_⟩) (by assumption) ?_
  rotate_left
  · (intro V hSw; have qx := cell_of_row V X 0 _ _ (0, 0) hSw.1; have q0 := hSw.2.1.c; have q1 := hSw.2.1.f; have q2 := hSw.2.1.s; have r0 := hSw.2.2.c; have r1 := hSw.2.2.f; have r2 := hSw.2.2.s; clear hSw; go_simp; try with_reducible rfl)
  try simp only [Act.put, List.getElem_toArray, List.getElem_cons_succ, List.getElem_cons_zero, List.setIfInBounds_toArray, List.set_cons_zero, List.set_cons_succ]
  refine wpAnyH_take (i := 2) (oi := _) (v := ?_) rfl (by kernel_rfl) (by kernel_rfl) (by kernel_rfl) (fun _ _ _ h => h) (Or.inl ⟨by rfl, ?_⟩) (by assumption) ?_
  rotate_left
  · (intro V hSw; have qx := cell_of_row V X 0 _ _ (0, 0) hSw.1; have q0 := hSw.2.1.c; have q1 := hSw.2.1.f; have q2 := hSw.2.1.s; have r0 := hSw.2.2.c; have r1 := hSw.2.2.f; have r2 := hSw.2.2.s; clear hSw; go_simp; try with_reducible rfl)
  try simp only [Act.put, List.getElem_toArray, List.getElem_cons_succ, List.getElem_cons_zero, List.setIfInBounds_toArray, List.set_cons_zero, List.set_cons_succ]
  refine wpAnyH_take (i := 3) (oi := _) (v := ?_) rfl (by kernel_rfl) (by kernel_rfl) (by kernel_rfl) (fun _ _ _ h => h) (Or.inl ⟨by rfl, ?_⟩) (by assumption) ?_
  rotate_left
  · (intro V hSw; have qx := cell_of_row V X 0 _ _ (0, 0) hSw.1; have q0 := hSw.2.1.c; have q1 := hSw.2.1.f; have q2 := hSw.2.1.s; have r0 := hSw.2.2.c; have r1 := hSw.2.2.f; have r2 := hSw.2.2.s; clear hSw; go_simp; try with_reducible rfl)
  try simp only [Act.put, List.getElem_toArray, List.getElem_cons_succ, List.getElem_cons_zero, List.setIfInBounds_toArray, List.set_cons_zero, List.set_cons_succ]
  refine wpAnyH_take (i := 4) (oi := _) (v := ?_) rfl (by kernel_rfl) (by kernel_rfl) (by kernel_rfl) (fun _ _ _ h => h) (Or.inl ⟨by rfl, ?_⟩) (by assumption) ?_
  rotate_left
  · (intro V hSw; have qx := cell_of_row V X 0 _ _ (0, 0) hSw.1; have q0 := hSw.2.1.c; have q1 := hSw.2.1.f; have q2 := hSw.2.1.s; have r0 := hSw.2.2.c; have r1 := hSw.2.2.f; have r2 := hSw.2.2.s; clear hSw; go_simp; try with_reducible rfl)
  try simp only [Act.put, List.getElem_toArray, List.getElem_cons_succ, List.getElem_cons_zero, List.setIfInBounds_toArray, List.set_cons_zero, List.set_cons_succ]
  refine wpAnyH_take (i := 5) (oi := _) (v := ?_) rfl (by kernel_rfl) (by kernel_rfl) (by kernel_rfl) (fun _ _ _ h => h) (Or.inl ⟨by rfl, ?_⟩) (by assumption) ?_
  rotate_left
  · (intro V hSw; have qx := cell_of_row V X 0 _ _ (0, 0) hSw.1; have q0 := hSw.2.1.c; have q1 := hSw.2.1.f; have q2 := hSw.2.1.s; have r0 := hSw.2.2.c; have r1 := hSw.2.2.f; have r2 := hSw.2.2.s; clear hSw; go_simp; try with_reducible rfl)
  try simp only [Act.put, List.getElem_toArray, List.getElem_cons_succ, List.getElem_cons_zero, List.setIfInBounds_toArray, List.set_cons_zero, List.set_cons_succ]
  refine wpAnyH_take (i := 6) (oi := _) (v := ?_) rfl (by kernel_rfl) (by kernel_rfl) (by kernel_rfl) (fun _ _ _ h => h) (Or.inl ⟨by rfl, ?_⟩) (by assumption) ?_
  rotate_left
  · (intro V hSw; have qx := cell_of_row V X 0 _ _ (0, 0) hSw.1; have q0 := hSw.2.1.c; have q1 := hSw.2.1.f; have q2 := hSw.2.1.s; have r0 := hSw.2.2.c; have r1 := hSw.2.2.f; have r2 := hSw.2.2.s; clear hSw; go_simp; try with_reducible rfl)
  try simp only [Act.put, List.getElem_toArray, List.getElem_cons_succ, List.getElem_cons_zero, List.setIfInBounds_toArray, List.set_cons_zero, List.set_cons_succ]
  refine wpAnyH_take (i := 7) (oi := _) (v := ?_) rfl (by kernel_rfl) (by kernel_rfl) (by kernel_rfl) (fun _ _ _ h => h) (Or.inl ⟨by rfl, ?_⟩) (by assumption) ?_
  rotate_left
  · (intro V hSw; have qx := cell_of_row V X 0 _ _ (0, 0) hSw.1; have q0 := hSw.2.1.c; have q1 := hSw.2.1.f; have q2 := hSw.2.1.s; have r0 := hSw.2.2.c; have r1 := hSw.2.2.f; have r2 := hSw.2.2.s; clear hSw; go_simp; try with_reducible rfl)
  try simp only [Act.put, List.getElem_toArray, List.getElem_cons_succ, List.getElem_cons_zero, List.setIfInBounds_toArray, List.set_cons_zero, List.set_cons_succ]
  refine wpAnyH_take (i := 8) (oi := _) (v := ?_) rfl (by kernel_rfl) (by kernel_rfl) (by kernel_rfl) (fun _ _ _ h => h) (Or.inl ⟨by rfl, ?_⟩) (by assumption) ?_
  rotate_left
  · (intro V hSw; have qx := cell_of_row V X 0 _ _ (0, 0) hSw.1; have q0 := hSw.2.1.c; have q1 := hSw.2.1.f; have q2 := hSw.2.1.s; have r0 := hSw.2.2.c; have r1 := hSw.2.2.f; have r2 := hSw.2.2.s; clear hSw; go_simp; try with_reducible rfl)
  try simp only [Act.put, List.getElem_toArray, List.getElem_cons_succ, List.getElem_cons_zero, List.setIfInBounds_toArray, List.set_cons_zero, List.set_cons_succ]
  refine wpAnyH_take (i := 9) (oi := _) (v := ?_) rfl (by kernel_rfl) (by kernel_rfl) (by kernel_rfl) (fun _ _ _ h => h) (Or.inl ⟨by rfl, ?_⟩) (by assumption) ?_
  rotate_left
  · (intro V hSw; have qx := cell_of_row V X 0 _ _ (0, 0) hSw.1; have q0 := hSw.2.1.c; have q1 := hSw.2.1.f; have q2 := hSw.2.1.s; have r0 := hSw.2.2.c; have r1 := hSw.2.2.f; have r2 := hSw.2.2.s; clear hSw; go_simp; try with_reducible rfl)
  try simp only [Act.put, List.getElem_toArray, List.getElem_cons_succ, List.getElem_cons_zero, List.setIfInBounds_toArray, List.set_cons_zero, List.set_cons_succ]
  refine wpAnyH_ready (rs := [10]) (by kernel_rfl) (by simp) ?_
  refine AllReadyH.cons rfl (fun K hK => ?_) AllReadyH.nil
  simp only [List.getElem_toArray, List.getElem_cons_succ, List.getElem_cons_zero]
  rw [if_pos (by rfl)]
  go_simp
  refine HL.out.mono ?_
  rintro _ w1 ⟨rfl, hB⟩
  go_wp2_with fail
  refine hK.out _ _ ⟨(hB.block _ (Array.getElem?_eq_some_iff.1 hX).1).trans hX, ⟨(hB.cell (World.block_lt_of_cell? _ _ ha.c)).trans ha.c, (hB.cell (World.block_lt_of_cell? _ _ ha.f)).trans ha.f, (hB.cell (World.block_lt_of_cell? _ _ ha.s)).trans ha.s⟩, ⟨(hB.cell (World.block_lt_of_cell? _ _ hb.c)).trans hb.c, (hB.cell (World.block_lt_of_cell? _ _ hb.f)).trans hb.f, (hB.cell (World.block_lt_of_cell? _ _ hb.s)).trans hb.s⟩⟩ (fun hHeld => ?_)
  clear hK K
  try simp only [Act.put, List.getElem_toArray, List.getElem_cons_succ, List.getElem_cons_zero, List.setIfInBounds_toArray, List.set_cons_zero, List.set_cons_succ]
  refine wpAnyH_take (i := 11) (oi := _) (v := ?_) rfl (by kernel_rfl) (by kernel_rfl) (by kernel_rfl) (fun _ _ _ h => h) (Or.inl ⟨by rfl, ?_⟩) (by assumption) ?_
  rotate_left
  · (intro V hSw; (try dsimp only at hSw); clear hSw; go_simp; try with_reducible rfl)
  try simp only [Act.put, List.getElem_toArray, List.getElem_cons_succ, List.getElem_cons_zero, List.setIfInBounds_toArray, List.set_cons_zero, List.set_cons_succ]
  refine wpAnyH_done (by kernel_rfl) ?_ _
  go_wp2
  go_ret
  exact ⟨rfl, (Below.refl _ W).drew.trans hB⟩
end Go.Proofs.YtlpnecmcncekcaaGreat.Mk
/- A row of entries, sorted by sort.Slice and Snapshot's closure. -/
namespace Go.Proofs.YtlpnecmcncekcaaGreat.Mk
open Go Go.RowKit Go.Lib

abbrev TEn : Nat := 54
abbrev TLn : Nat := 35
instance : Inhabited En := ⟨en0⟩
def ltE (a b : En) : Bool := ltK a.k b.k
theorem swo_ltE : Sort.SWO ltE where
  irrefl := fun x => by simp [ltE, ltK]
  trans := fun x y z h1 h2 => by simp [ltE, ltK] at *; omega
  ntrans := fun x y z h1 h2 => by simp [ltE, ltK] at *; omega
def encE (e : En) : List Value := e.cells.toList
theorem encE_len (e : En) : (encE e).length = 5 := rfl
theorem encE_one (e : En) : ∀ v ∈ encE e, v.oneCell' = true := by
  intro v hv
  simp [encE, En.cells] at hv
  rcases hv with rfl | rfl | rfl | rfl | rfl <;> rfl
/-- a row's cells -/
def ecs (l : List En) : List Value := l.flatMap encE
theorem ecs_len (l : List En) : (ecs l).length = l.length * 5 := by
  induction l with
  | nil => rfl
  | cons a l ih => simp only [ecs, List.flatMap_cons, List.length_append, List.length_cons] at *; rw [ih, encE_len]; omega
theorem ecs_get : ∀ (l : List En) (i q : Nat) (h : i < l.length), q < 5 → (ecs l)[i * 5 + q]? = (encE l[i])[q]?
  | [], _, _, h, _ => by cases h
  | a :: l, 0, q, _, hq => by
    simp only [ecs, List.flatMap_cons]
    rw [List.getElem?_append_left (by rw [encE_len]; omega)]
    simp
  | a :: l, i + 1, q, h, hq => by
    simp only [ecs, List.flatMap_cons]
    rw [List.getElem?_append_right (by rw [encE_len]; omega), encE_len, show (i + 1) * 5 + q - 5 = i * 5 + q by omega]
    exact ecs_get l i q (by simpa using h) hq
/-- what is owned is held -/
theorem holds_of_own {V : World} {base g cap : Nat} {l : List En} (h : V.ownsRow base TEn 5 (.slice (some ⟨g, 0, none⟩) l.length cap) l.length (ecs l)) : Sort.HoldsK encE 5 V g 0 l.toArray := by
  rcases h.2 with ⟨h1, _⟩ | ⟨g', cap', cur, h1, hg, hh, hn, hm, hc, ht⟩
  · cases h1
  · injection h1 with h1 h2 h3
    injection h1 with h1
    injection h1 with h1
    subst h1
    intro j hj
    have hj' : j < l.length * 5 := by simpa using hj
    have hlt : j / 5 < l.length := by omega
    rw [Sort.get_flatK _ _ _ _ (by simpa using hj')]
    have e1 : j = j / 5 * 5 + j % 5 := by omega
    have h4 := ecs_get l (j / 5) (j % 5) hlt (Nat.mod_lt _ (by omega))
    rw [← e1, ← ht] at h4
    have hjc : j < cur.size := by
      have := Nat.mul_le_mul_right 5 hn
      omega
    refine ⟨?_, by simp [World.frozen?, hh]⟩
    show V.cell? ⟨g, 0 + j, none⟩ = _
    rw [Nat.zero_add]
    rw [List.getElem?_take_of_lt hj'] at h4
    have h5 : cur[j]? = (encE l[j / 5])[j % 5]? := by rw [← h4]; simp
    have h6 : (encE l[j / 5])[j % 5]? = some (encE l[j / 5])[j % 5]! := by
      have : j % 5 < (encE l[j / 5]).length := by rw [encE_len]; omega
      rw [List.getElem?_eq_getElem this, getElem!_pos (encE l[j / 5]) (j % 5) this]
    simp only [World.cell?, hh]
    rw [if_neg (by simp), h5, h6]
    have hz : l.toArray[j / 5]! = l[j / 5] := by rw [getElem!_pos _ _ (by simpa using hlt)]; simp
    rw [hz]
    rfl
theorem slB : slE.size = 5 := by kernel_rfl
theorem slK (n : Nat) (h2 : 2 ≤ n) : Lib.swapperK n slE 25 = 9 := by
  have a : slE.hasPointers = false := by kernel_rfl
  have b : slE.bytes = 40 := by kernel_rfl
  have c : (n == 0) = false := by simp; omega
  have d : (n == 1) = false := by simp; omega
  simp [Lib.swapperK, a, b, c, d]
theorem keyAt_of {V : World} {g i : Nat} {d : Array En} (h : Sort.HoldsK encE 5 V g 0 d) (hi : i < d.size) : KeyAt V g i d[i]!.k := by
  have h0 := (h.cell (i := i) (c := 0) hi (by omega)).1
  have h1 := (h.cell (i := i) (c := 1) hi (by omega)).1
  have h2 := (h.cell (i := i) (c := 2) hi (by omega)).1
  rw [Nat.zero_add, Nat.add_zero] at h0
  rw [Nat.zero_add] at h1 h2
  exact ⟨h0, h1, h2⟩
/-- sort.Slice of two entries or more: the row's box lies in X. -/
theorem sort_two (X g c : Nat) (d : Array En) (w : World) (h2 : 2 ≤ d.size) (hsz : d.size < 4611686018427387904) (hH : Sort.HoldsK encE 5 w g 0 d) (hg : g < w.heap.size) (hX : w.heap[X]? = some (.cells #[.slice (some ⟨g, 0, none⟩) d.size c] TLn (0, 0))) (hne : X ≠ g) :
    Calls Tryz.prog 38 #[.iface TLn (.slice (some ⟨g, 0, none⟩) d.size c), .func (.func 48) #[] #[.pointer (some ⟨X, 0, none⟩)]] w fun e w' =>
      e = .returned (.tuple #[]) ∧ ∃ d', Sort.PermIn 0 d.size d d' ∧ Sort.SortedIn ltE 0 d.size d' ∧ St.RowT encE 5 w w.heap.size g 0 d.size d' w' := by
  have hlt : X < w.heap.size := (Array.getElem?_eq_some_iff.1 hX).1
  exact St.slice_any laysSl TLn TEn slT slE (by kernel_rfl) (by kernel_rfl) (by kernel_rfl) (by kernel_rfl) 25 (fun _ => by kernel_rfl) encE 5 encE_len slB (fun _ => by kernel_rfl) encE_one ltE swo_ltE
    48 #[.pointer (some ⟨X, 0, none⟩)] (enters_of Tryz.func48 (by kernel_rfl) rfl) g 0 c d h2 hsz 92 (by rw [slK _ h2]; kernel_rfl) false
    (fun args W => run_callFunc_extern Tryz.func92 (by kernel_rfl) (by kernel_rfl) (by kernel_rfl) (e := Extern.ReflectliteSwapper.swap false) (by kernel_rfl) args W) w hH hg
    (fun d' W h i j hi hj => snapLess X g d.size c i j d'[i]!.k d'[j]!.k W ((h.rest X hlt hne).trans hX) (keyAt_of h.holds (by rw [h.sz]; exact hi)) (keyAt_of h.holds (by rw [h.sz]; exact hj)) hi hj)
end Go.Proofs.YtlpnecmcncekcaaGreat.Mk
