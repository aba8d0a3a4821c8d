import Derived.Test.YtlpnecmcncekcaaGreatSnapLess
import Derived.Test.YtlpnecmcncekcaaGreatSortTiny
import Derived.Test.YtlpnecmcncekcaaGreatSt3
/- A row of entries, sorted by sort.Slice and Snapshot's closure. -/
namespace Go.Proofs.YtlpnecmcncekcaaGreat.Mk
open Go Go.RowKit Go.Lib

abbrev TEn : Nat := 54
abbrev TLn : Nat := 35
instance : Inhabited En := ⟨en0⟩
def ltE (a b : En) : Bool := ltK a.k b.k
theorem swo_ltE : Sort.SWO ltE where
  irrefl := fun x => by simp [ltE, ltK]
  trans := fun x y z h1 h2 => by simp [ltE, ltK] at *; omega
  ntrans := fun x y z h1 h2 => by simp [ltE, ltK] at *; omega
def encE (e : En) : List Value := e.cells.toList
theorem encE_len (e : En) : (encE e).length = 5 := rfl
theorem encE_one (e : En) : ∀ v ∈ encE e, v.oneCell' = true := by
  intro v hv
  simp [encE, En.cells] at hv
  rcases hv with rfl | rfl | rfl | rfl | rfl <;> rfl
/-- a row's cells -/
def ecs (l : List En) : List Value := l.flatMap encE
theorem ecs_len (l : List En) : (ecs l).length = l.length * 5 := by
  induction l with
  | nil => rfl
  | cons a l ih => simp only [ecs, List.flatMap_cons, List.length_append, List.length_cons] at *; rw [ih, encE_len]; omega
theorem ecs_get : ∀ (l : List En) (i q : Nat) (h : i < l.length), q < 5 → (ecs l)[i * 5 + q]? = (encE l[i])[q]?
  | [], _, _, h, _ => by cases h
  | a :: l, 0, q, _, hq => by
    simp only [ecs, List.flatMap_cons]
    rw [List.getElem?_append_left (by rw [encE_len]; omega)]
    simp
  | a :: l, i + 1, q, h, hq => by
    simp only [ecs, List.flatMap_cons]
    rw [List.getElem?_append_right (by rw [encE_len]; omega), encE_len, show (i + 1) * 5 + q - 5 = i * 5 + q by omega]
    exact ecs_get l i q (by simpa using h) hq
/-- what is owned is held -/
theorem holds_of_own {V : World} {base g cap : Nat} {l : List En} (h : V.ownsRow base TEn 5 (.slice (some ⟨g, 0, none⟩) l.length cap) l.length (ecs l)) : Sort.HoldsK encE 5 V g 0 l.toArray := by
  rcases h.2 with ⟨h1, _⟩ | ⟨g', cap', cur, h1, hg, hh, hn, hm, hc, ht⟩
  · cases h1
  · injection h1 with h1 h2 h3
    injection h1 with h1
    injection h1 with h1
    subst h1
    intro j hj
    have hj' : j < l.length * 5 := by simpa using hj
    have hlt : j / 5 < l.length := by omega
    rw [Sort.get_flatK _ _ _ _ (by simpa using hj')]
    have e1 : j = j / 5 * 5 + j % 5 := by omega
    have h4 := ecs_get l (j / 5) (j % 5) hlt (Nat.mod_lt _ (by omega))
    rw [← e1, ← ht] at h4
    have hjc : j < cur.size := by
      have := Nat.mul_le_mul_right 5 hn
      omega
    refine ⟨?_, by simp [World.frozen?, hh]⟩
    show V.cell? ⟨g, 0 + j, none⟩ = _
    rw [Nat.zero_add]
    rw [List.getElem?_take_of_lt hj'] at h4
    have h5 : cur[j]? = (encE l[j / 5])[j % 5]? := by rw [← h4]; simp
    have h6 : (encE l[j / 5])[j % 5]? = some (encE l[j / 5])[j % 5]! := by
      have : j % 5 < (encE l[j / 5]).length := by rw [encE_len]; omega
      rw [List.getElem?_eq_getElem this, getElem!_pos (encE l[j / 5]) (j % 5) this]
    simp only [World.cell?, hh]
    rw [if_neg (by simp), h5, h6]
    have hz : l.toArray[j / 5]! = l[j / 5] := by rw [getElem!_pos _ _ (by simpa using hlt)]; simp
    rw [hz]
    rfl
theorem slB : slE.size = 5 := by kernel_rfl
theorem slK (n : Nat) (h2 : 2 ≤ n) : Lib.swapperK n slE 25 = 9 := by
  have a : slE.hasPointers = false := by kernel_rfl
  have b : slE.bytes = 40 := by kernel_rfl
  have c : (n == 0) = false := by simp; omega
  have d : (n == 1) = false := by simp; omega
  simp [Lib.swapperK, a, b, c, d]
theorem keyAt_of {V : World} {g i : Nat} {d : Array En} (h : Sort.HoldsK encE 5 V g 0 d) (hi : i < d.size) : KeyAt V g i d[i]!.k := by
  have h0 := (h.cell (i := i) (c := 0) hi (by omega)).1
  have h1 := (h.cell (i := i) (c := 1) hi (by omega)).1
  have h2 := (h.cell (i := i) (c := 2) hi (by omega)).1
  rw [Nat.zero_add, Nat.add_zero] at h0
  rw [Nat.zero_add] at h1 h2
  exact ⟨h0, h1, h2⟩
/-- sort.Slice of two entries or more: the row's box lies in X. -/
theorem sort_two (X g c : Nat) (d : Array En) (w : World) (h2 : 2 ≤ d.size) (hsz : d.size < 4611686018427387904) (hH : Sort.HoldsK encE 5 w g 0 d) (hg : g < w.heap.size) (hX : w.heap[X]? = some (.cells #[.slice (some ⟨g, 0, none⟩) d.size c] TLn (0, 0))) (hne : X ≠ g) :
    Calls Tryz.prog 38 #[.iface TLn (.slice (some ⟨g, 0, none⟩) d.size c), .func (.func 48) #[] #[.pointer (some ⟨X, 0, none⟩)]] w fun e w' =>
      e = .returned (.tuple #[]) ∧ ∃ d', Sort.PermIn 0 d.size d d' ∧ Sort.SortedIn ltE 0 d.size d' ∧ St.RowT encE 5 w w.heap.size g 0 d.size d' w' := by
  have hlt : X < w.heap.size := (Array.getElem?_eq_some_iff.1 hX).1
  exact St.slice_any laysSl TLn TEn slT slE (by kernel_rfl) (by kernel_rfl) (by kernel_rfl) (by kernel_rfl) 25 (fun _ => by kernel_rfl) encE 5 encE_len slB (fun _ => by kernel_rfl) encE_one ltE swo_ltE
    48 #[.pointer (some ⟨X, 0, none⟩)] (enters_of Tryz.func48 (by kernel_rfl) rfl) g 0 c d h2 hsz 92 (by rw [slK _ h2]; kernel_rfl) false
    (fun args W => run_callFunc_extern Tryz.func92 (by kernel_rfl) (by kernel_rfl) (by kernel_rfl) (e := Extern.ReflectliteSwapper.swap false) (by kernel_rfl) args W) w hH hg
    (fun d' W h i j hi hj => snapLess X g d.size c i j d'[i]!.k d'[j]!.k W ((h.rest X hlt hne).trans hX) (keyAt_of h.holds (by rw [h.sz]; exact hi)) (keyAt_of h.holds (by rw [h.sz]; exact hj)) hi hj)
end Go.Proofs.YtlpnecmcncekcaaGreat.Mk
