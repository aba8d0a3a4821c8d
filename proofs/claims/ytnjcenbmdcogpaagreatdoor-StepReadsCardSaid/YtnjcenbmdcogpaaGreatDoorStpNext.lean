/- Steps: the words of a line, taken one by one; a number of the next one: the two closures of Parse. -/
import Derived.Test.YtnjcenbmdcogpaaGreatDoorStpRow
import Derived.Test.YtnjcenbmdcogpaaGreatDoorLastHeld
import Derived.Deep.Cut
namespace Go.Proofs.YtnjcenbmdcogpaaGreatDoor.Sp
open Go Go.Lib Go.RowKit

/-- a box and the texts that its slice still holds -/
def NX (W : World) (B G : Nat) (ws : List ByteArray) : Prop := ∃ A cap, W.heap[B]? = some (.cells #[.slice A ws.length cap] 38 (0, 0)) ∧ ws.length ≤ cap ∧
  (ws = [] ∨ ∃ off, A = some ⟨G, off, none⟩ ∧ G ≠ B ∧ G < W.heap.size ∧ ∀ i, i < ws.length → W.cell? ⟨G, off + i, none⟩ = some (.string (ws.getD i ⟨#[]⟩)))
/-- all but one block stands -/
structure Oh (B : Nat) (w w' : World) : Prop where
  os : w'.os = w.os
  tape : w'.tape = w.tape
  output : w'.output = w.output
  size : w.heap.size ≤ w'.heap.size
  block : ∀ k, k ≠ B → k < w.heap.size → w'.heap[k]? = w.heap[k]?
theorem Oh.of_below {B : Nat} {w w' : World} (h : Below w.heap.size w w') : Oh B w w' := ⟨h.os, h.tape, h.output, h.size, fun k _ hk => h.block k hk⟩
theorem Oh.trans {B : Nat} {a b c : World} (h : Oh B a b) (g : Oh B b c) : Oh B a c := ⟨g.os.trans h.os, g.tape.trans h.tape, g.output.trans h.output, Nat.le_trans h.size g.size, fun k hk hl => (g.block k hk (Nat.lt_of_lt_of_le hl h.size)).trans (h.block k hk hl)⟩
theorem Oh.below {B b : Nat} {w0 w w' : World} (h : Oh B w w') (hb : Below b w0 w) (hB : b ≤ B) (hs : b ≤ w0.heap.size) : Below b w0 w' :=
  ⟨h.os.trans hb.os, h.tape.trans hb.tape, h.output.trans hb.output, Nat.le_trans hb.size h.size, fun k hk => (h.block k (by omega) (Nat.lt_of_lt_of_le hk (Nat.le_trans hs hb.size))).trans (hb.block k hk)⟩
theorem NX.lt {W : World} {B G : Nat} {ws : List ByteArray} (h : NX W B G ws) : B < W.heap.size := by
  obtain ⟨A, cap, h1, _⟩ := h
  exact (Array.getElem?_eq_some_iff.1 h1).1
theorem NX.below {W W' : World} {B G : Nat} {ws : List ByteArray} (h : NX W B G ws) (hb : Below W.heap.size W W') : NX W' B G ws := by
  have hl := h.lt
  obtain ⟨A, cap, h1, h2, h3⟩ := h
  refine ⟨A, cap, (hb.block _ hl).trans h1, h2, h3.imp id ?_⟩
  rintro ⟨off, e1, e2, e3, e4⟩
  exact ⟨off, e1, e2, Nat.lt_of_lt_of_le e3 hb.size, fun i hi => (hb.cell (p := ⟨G, _, none⟩) e3).trans (e4 i hi)⟩
theorem cell_of_blk {W V : World} {g i : Nat} (h : W.heap[g]? = V.heap[g]?) : W.cell? ⟨g, i, none⟩ = V.cell? ⟨g, i, none⟩ := by simp only [World.cell?, h]
theorem ErrsLie.oh {B : Nat} {w w' : World} (h : ErrsLie w) (ho : Oh B w w') (hg : 2 ≠ B ∧ 3 ≠ B) : ErrsLie w' := by
  obtain ⟨⟨a, ha, ha2⟩, ⟨b, hb', hb2⟩⟩ := h
  exact ⟨⟨a, (cell_of_blk (ho.block _ hg.1 (lt_of_cell ha))).trans ha, ha2⟩, ⟨b, (cell_of_blk (ho.block _ hg.2 (lt_of_cell hb'))).trans hb', hb2⟩⟩
theorem set_box {W : World} {B : Nat} {v0 : Value} {T : TypeId} (h : W.heap[B]? = some (.cells #[v0] T (0, 0))) (v : Value) : (W.setCell ⟨B, 0, none⟩ v).heap[B]? = some (.cells #[v] T (0, 0)) := by
  obtain ⟨hl, he⟩ := Array.getElem?_eq_some_iff.1 h
  simp [World.setCell, hl]
  rw [Array.getElem_modify_self, he]
  rfl
theorem add1 (g off : Nat) : (⟨g, off, none⟩ : Addr).add 1 = ⟨g, off + 1, none⟩ := by simp [Addr.add]
theorem pts1 {V : World} {g off c m : Nat} {A2 : Option Addr} {a : ByteArray} {r : List ByteArray} (hA : A2 = if c = 1 then some ⟨g, off, none⟩ else some (⟨g, off + 1, none⟩ : Addr)) (hm : r.length = m) (hc : m + 1 ≤ c)
    (h4 : ∀ i, i < (a :: r).length → V.cell? ⟨g, off + i, none⟩ = some (.string ((a :: r).getD i ⟨#[]⟩))) : r = [] ∨ A2 = some ⟨g, off + 1, none⟩ ∧ ∀ i, i < r.length → V.cell? ⟨g, off + 1 + i, none⟩ = some (.string (r.getD i ⟨#[]⟩)) := by
  by_cases hr : r = []
  · exact .inl hr
  · have : 0 < r.length := List.length_pos_iff.2 hr
    refine .inr ⟨by rw [hA, if_neg (by omega)], fun i hi => ?_⟩
    have := h4 (i + 1) (by simp; omega)
    rw [show off + 1 + i = off + (i + 1) by omega]
    exact this
set_option maxHeartbeats 1000000 in
theorem next_nil (B g : Nat) (W : World) (h : NX W B g []) : Calls Tryz.prog 44 #[.pointer (some ⟨B, 0, none⟩)] W fun e w' => e = .returned (.string ⟨#[]⟩) ∧ w' = W := by
  obtain ⟨A, cap, h1, h2, _⟩ := h
  have s1 : W.cell? ⟨B, 0, none⟩ = some (.slice A 0 cap) := by rw [Lib.cell_of_heap h1]; rfl
  clear h1
  go_enter Tryz.func44, Tryz.ntmps44
  go_wp2
  go_ret
  exact ⟨rfl, rfl⟩
set_option maxRecDepth 100000 in
set_option maxHeartbeats 1000000 in
theorem next_cons (B g : Nat) (a : ByteArray) (r : List ByteArray) (hr1 : r.length ≤ 1000000) (W : World) (h : NX W B g (a :: r)) : Calls Tryz.prog 44 #[.pointer (some ⟨B, 0, none⟩)] W fun e w' => e = .returned (.string a) ∧ NX w' B g r ∧ Oh B W w' := by
  have hBl := h.lt
  obtain ⟨A, cap, h1, h2, h3⟩ := h
  rcases h3 with h3 | ⟨off, rfl, hgB, hgl, h4⟩
  · cases h3
  have s1 : W.cell? ⟨B, 0, none⟩ = some (.slice (some ⟨g, off, none⟩) (r.length + 1) cap) := by rw [Lib.cell_of_heap h1]; rfl
  have s2 : W.cell? ⟨g, off, none⟩ = some (.string a) := h4 0 (by simp)
  have hf1 : W.frozen? ⟨B, 0, none⟩ = false := Lib.frozen_of_heap h1 0
  have H4 := Lib.hid h4
  have H1 := Lib.hid h1
  have hne : r.length + 1 ≤ cap := h2
  obtain ⟨m, hm⟩ : ∃ m, r.length = m := ⟨_, rfl⟩
  rw [hm] at s1 hne hr1
  have HM := Lib.hid hm
  have hmi : (0 : Int) < ((m + 1 : Nat) : Int) := by omega
  have hmc : ((m + 1 : Nat) : Int) ≤ (cap : Int) := by omega
  have hm1 : (1 : Int) ≤ (m : Int) + 1 := by omega
  have hm2 : (m : Int) + 1 ≤ (cap : Int) := by omega
  clear h4 h1 h2 hm
  go_enter Tryz.func44, Tryz.ntmps44
  go_upto_region 2 with fail
  have hHeld : W.drew.cell? ⟨B, 0, none⟩ = some (.slice (some ⟨g, off, none⟩) (m + 1) cap) ∧ W.drew.cell? ⟨g, off, none⟩ = some (.string a) := ⟨s1, s2⟩
  refine wp_region_last (S := fun V => V.cell? ⟨B, 0, none⟩ = some (.slice (some ⟨g, off, none⟩) (m + 1) cap) ∧ V.cell? ⟨g, off, none⟩ = some (.string a)) 6 (by kernel_rfl) ?_
  refine wpL_take (i := 0) (oi := _) (v := ?_) [5, 2, 1] rfl (by kernel_rfl) (by kernel_rfl) (by kernel_rfl) (by kernel_rfl) (by kernel_rfl) (fun _ _ _ h => h) (Or.inl ⟨by rfl, ?_⟩) (by assumption) ?_
  rotate_left
  · (intro V hSw; obtain ⟨s1, s2⟩ := hSw; go_simp; try with_reducible rfl)
  try simp only [Act.put, List.getElem_toArray, List.getElem_cons_zero, List.setIfInBounds_toArray, List.set_cons_zero, List.set_cons_succ]
  refine wpL_take (i := 1) (oi := _) (v := ?_) [5, 2] rfl (by kernel_rfl) (by kernel_rfl) (by kernel_rfl) (by kernel_rfl) (by kernel_rfl) (fun _ _ _ h => h) (Or.inl ⟨by rfl, ?_⟩) (by assumption) ?_
  rotate_left
  · (intro V hSw; obtain ⟨s1, s2⟩ := hSw; go_simp; try with_reducible rfl)
  try simp only [Act.put, List.getElem_toArray, List.getElem_cons_succ, List.getElem_cons_zero, List.setIfInBounds_toArray, List.set_cons_zero, List.set_cons_succ]
  refine wpL_take (i := 2) (oi := _) (v := ?_) [5] rfl (by kernel_rfl) (by kernel_rfl) (by kernel_rfl) (by kernel_rfl) (by kernel_rfl) (fun _ _ _ h => h) (Or.inl ⟨by rfl, ?_⟩) (by assumption) ?_
  rotate_left
  · (intro V hSw; obtain ⟨s1, s2⟩ := hSw; go_simp; try with_reducible rfl)
  try simp only [Act.put, List.getElem_toArray, List.getElem_cons_succ, List.getElem_cons_zero, List.setIfInBounds_toArray, List.set_cons_zero, List.set_cons_succ]
  refine wpL_take (i := 3) (oi := _) (v := ?_) [4] rfl (by kernel_rfl) (by kernel_rfl) (by kernel_rfl) (by kernel_rfl) (by kernel_rfl) (fun _ _ _ h => h) (Or.inl ⟨by rfl, ?_⟩) (by assumption) ?_
  rotate_left
  · (intro V hSw; obtain ⟨s1, s2⟩ := hSw; go_simp; try with_reducible rfl)
  try simp only [Act.put, List.getElem_toArray, List.getElem_cons_succ, List.getElem_cons_zero, List.setIfInBounds_toArray, List.set_cons_zero, List.set_cons_succ]
  refine wpL_take (i := 4) (oi := _) (v := ?_) [] rfl (by kernel_rfl) (by kernel_rfl) (by kernel_rfl) (by kernel_rfl) (by kernel_rfl) (fun _ _ _ h => h) (Or.inl ⟨by rfl, ?_⟩) (by assumption) ?_
  rotate_left
  · (intro V hSw; obtain ⟨s1, s2⟩ := hSw; go_simp; try with_reducible rfl)
  try simp only [Act.put, List.getElem_toArray, List.getElem_cons_succ, List.getElem_cons_zero, List.setIfInBounds_toArray, List.set_cons_zero, List.set_cons_succ]
  refine wpL_take (i := 5) (oi := _) (v := ?_) [] rfl (by kernel_rfl) (by kernel_rfl) (by kernel_rfl) (by kernel_rfl) (by kernel_rfl) (fun _ _ _ h => h) (Or.inl ⟨by rfl, ?_⟩) (by assumption) ?_
  rotate_left
  · (intro V hSw; obtain ⟨s1, s2⟩ := hSw; go_simp; try with_reducible rfl)
  try simp only [Act.put, List.getElem_toArray, List.getElem_cons_succ, List.getElem_cons_zero, List.setIfInBounds_toArray, List.set_cons_zero, List.set_cons_succ]
  refine wpL_ready (rs := [6]) (by kernel_rfl) (by simp) ?_
  refine AllL.cons rfl (fun K hK => ?_) AllL.nil
  simp only [List.getElem_toArray, List.getElem_cons_succ, List.getElem_cons_zero]
  rw [if_pos (by rfl)]
  go_simp
  refine hK.out _ _ (Or.inl rfl) ?_
  clear hK K
  try simp only [Act.put, List.getElem_toArray, List.getElem_cons_succ, List.getElem_cons_zero, List.setIfInBounds_toArray, List.set_cons_zero, List.set_cons_succ]
  refine wpL_done (by kernel_rfl) ?_ _
  obtain ⟨A2, hA2⟩ : ∃ A2, A2 = (if cap = 1 then some (⟨g, off, none⟩ : Addr) else some ⟨g, off + 1, none⟩) := ⟨_, rfl⟩
  rw [← hA2]
  have HF : Hid (NX (W.setCell ⟨B, 0, none⟩ (.slice A2 m (cap - 1))).drew B g r ∧ Oh B W (W.setCell ⟨B, 0, none⟩ (.slice A2 m (cap - 1))).drew) := Lib.hid ⟨by
    refine ⟨A2, cap - 1, by rw [HM.out]; exact set_box H1.out _, by rw [HM.out]; omega, ?_⟩
    have h4' : ∀ i, i < (a :: r).length → (W.setCell ⟨B, 0, none⟩ (.slice A2 m (cap - 1))).drew.cell? ⟨g, off + i, none⟩ = some (.string ((a :: r).getD i ⟨#[]⟩)) := fun i hi => by
      rw [← H4.out i hi]
      exact cell_of_blk (Below.heap_setCell _ _ _ _ (fun e => hgB e))
    rcases pts1 hA2 HM.out hne h4' with h | ⟨h, h'⟩
    · exact .inl h
    · exact .inr ⟨off + 1, h, hgB, by show g < (W.setCell _ _).heap.size; simpa using hgl, h'⟩, ⟨rfl, rfl, rfl, by show _ ≤ (W.setCell _ _).heap.size; simp, fun k hk _ => Below.heap_setCell _ _ _ _ hk⟩⟩
  generalize (W.setCell ⟨B, 0, none⟩ (.slice A2 m (cap - 1))).drew = W2 at HF ⊢
  clear hHeld hA2
  go_wp2
  go_ret
  exact ⟨rfl, HF.out.1, HF.out.2⟩
def hd (ws : List ByteArray) : ByteArray := ws.getD 0 ⟨#[]⟩
theorem next_any (B g : Nat) (ws : List ByteArray) (hw : ws.length ≤ 1000000) (W : World) (h : NX W B g ws) : Calls Tryz.prog 44 #[.pointer (some ⟨B, 0, none⟩)] W fun e w' => e = .returned (.string (hd ws)) ∧ NX w' B g ws.tail ∧ Oh B W w' := by
  cases ws with
  | nil => exact (next_nil B g W h).mono fun e w' ⟨h1, h2⟩ => by subst h2; exact ⟨h1, h, Oh.of_below (Below.refl _ _)⟩
  | cons a r => exact next_cons B g a r (by simp at hw; omega) W h
/-- the box that holds the closure -/
def NB (W : World) (N B : Nat) : Prop := W.heap[N]? = some (.cells #[.func (.func 44) #[] #[.pointer (some ⟨B, 0, none⟩)]] 65 (0, 0))
theorem num_next (N B g : Nat) (ws : List ByteArray) (hw : ws.length ≤ 1000000) (hs : (hd ws).size ≤ 1000000) (W : World) (h : NX W B g ws) (hN : NB W N B) (hE : ErrsLie W) (hg : 2 ≠ B ∧ 3 ≠ B) :
    Calls Tryz.prog 45 #[.pointer (some ⟨N, 0, none⟩)] W fun e w' => e = .returned (.int .u64 (numP (hd ws).data.toList : Nat)) ∧ NX w' B g ws.tail ∧ Oh B W w' := by
  have c0 : W.cell? ⟨N, 0, none⟩ = some (.func (.func 44) #[] #[.pointer (some ⟨B, 0, none⟩)]) := by rw [Lib.cell_of_heap hN]; rfl
  have HX := Lib.hid (next_any B g ws hw W h)
  clear h
  go_enter Tryz.func45, Tryz.ntmps45
  go_wp2_with fail
  refine HX.out.mono ?_
  rintro _ w1 ⟨rfl, hn1, ho1⟩
  have HN1 := Lib.hid hn1
  have HO1 := Lib.hid ho1
  have HE1 := Lib.hid (ErrsLie.oh hE ho1 hg)
  clear hn1 ho1 hE
  go_wp2_with fail
  refine (puint_any (hd ws) w1 (by omega) HE1.out).mono ?_
  rintro _ w2 ⟨⟨er, rfl⟩, hb2⟩
  have HF := Lib.hid (And.intro (HN1.out.below hb2) (HO1.out.trans (Oh.of_below hb2)))
  clear hb2
  go_wp2
  go_ret
  exact ⟨rfl, HF.out⟩
end Go.Proofs.YtnjcenbmdcogpaaGreatDoor.Sp
