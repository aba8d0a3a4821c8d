/- Words in a row of the call's own: made, added, joined. -/
import Derived.Test.YtpakefgbjncdiadDoorRepBox
import Derived.Test.YtpakefgbjncdiadDoorJoinS
import Derived.Test.YtpakefgbjncdiadDoorAppendKeep
namespace Go.Proofs.YtpakefgbjncdiadDoor.Rep
open Go Go.RowKit Num Dec packetKeys

theorem infoS : (Tryd.prog.info? 9).map (fun i => (i.zero, i.size, i.bytes)) = some (some (.string ⟨#[]⟩), 1, 16) := by kernel_rfl
theorem news_new (W : World) (cs : Array Value) (t : TypeId) : ∀ j u, cs.toList[j]? = some u → (W.alloc (.cells cs t)).cell? ((⟨W.heap.size, 0, none⟩ : Addr).add j) = some u := by
  intro j u hj
  have : (⟨W.heap.size, 0, none⟩ : Addr).add j = ⟨W.heap.size, j, none⟩ := by unfold Addr.add; by_cases h : j = 0 <;> simp [h]
  rw [this, cell_of_row _ _ _ _ _ (0, 0) (heap_alloc_new W _), ← Array.getElem?_toList]
  exact hj
theorem strs_one (xs : List ByteArray) : ∀ u ∈ xs.map Value.string, u.oneCell' = true := by
  intro u hu
  obtain ⟨x, _, rfl⟩ := List.mem_map.1 hu; rfl
/-- A row that was just made. -/
theorem own_new (W : World) (base n : Nat) (cs : Array Value) (hn : cs.size = n) (hb : base ≤ W.heap.size) (h : n ≤ 100) : (W.alloc (.cells cs 9)).ownsRow base 9 1 (.slice (some ⟨W.heap.size, 0, none⟩) n n) n cs.toList := by
  refine ⟨by simp [hn], .inr ⟨W.heap.size, n, cs, rfl, hb, heap_alloc_new W _, Nat.le_refl _, by unfold maxLen; omega, by omega, ?_⟩⟩
  rw [List.take_of_length_le (by simp [hn])]
theorem BX.push {w wr w1 : World} {t : TypeId} {cs : Array Value} {o : Obj} {v : Value} {n : Nat} {xs : List Value} (hT : Tab w) (h : BX w t cs wr) (hown : wr.ownsRow (w.heap.size + 1) 9 1 v n xs) (hg : (wr.alloc o).grownBy w1 v.ownBlock) : BX w t cs w1 := by
  have hlt := (Array.getElem?_eq_some_iff.1 h.2).1
  have hb : Below w.heap.size w w1 := (h.1.1.alloc h.1.1.size o).grown hg (by have := h.1.1.size; simp; omega) (fun k hk => by have := own_ge hown k hk; omega)
  exact ⟨⟨hb, tab_below hT hb⟩, (hg.block w.heap.size (by simp; omega) fun e => by have := own_ge hown w.heap.size e.symm; omega).trans ((Below.heap_alloc _ _ _ hlt).trans h.2)⟩

def joinB (xs : List ByteArray) : ByteArray := ⟨(Lib.join (xs.map (·.data.toList)) [32]).toArray⟩
theorem ext_l {a b : ByteArray} (h : a.data.toList = b.data.toList) : a = b := Go.WideShapes.bytes_inj h
theorem join_one (a : ByteArray) : joinB [a] = a := ext_l (by simp [joinB, Lib.join])
theorem join_cons (a b : ByteArray) (r : List ByteArray) : joinB (a :: b :: r) = a ++ (⟨#[32]⟩ ++ joinB (b :: r)) := ext_l (by simp [joinB, Lib.join])
theorem join_own (base : Nat) (v : Value) (xs : List ByteArray) (W : World) (hown : W.ownsRow base 9 1 v xs.length (xs.map Value.string)) (h0 : 0 < xs.length) (hl : xs.length ≤ 1000) (hs : (joinB xs).size ≤ 1000000) :
    Calls Tryd.prog 16 #[v, .string ⟨#[32]⟩] W fun e w' => e = .returned (.string (joinB xs)) ∧ Below W.heap.size W w' := by
  rcases hown.2 with ⟨_, hx⟩ | ⟨g, cap, cur, rfl, hbg, hg, hnc, hcm, hcs, htake⟩
  · have : xs = [] := by simpa using hx
    subst this; simp at h0
  · have hc : ∀ (j : Nat) x, xs[j]? = some x → W.cell? ⟨g, 0 + j, none⟩ = some (.string x) := fun j x h => by
      have := hown.cells (g := g) rfl j (.string x) (by rw [List.getElem?_map, h]; rfl)
      rw [← this]
      unfold Addr.add
      by_cases h0 : j = 0 <;> simp [h0]
    exact Any.strings_Join Sha.laysJoin Sha.extraJoin g 0 cap xs ⟨#[32]⟩ W hc (Array.getElem?_eq_some_iff.1 hg).1 (by omega) hnc (by have e : (joinB xs).size = (Lib.join (xs.map (·.data.toList)) [32]).length := rfl; show (Lib.join _ [32]).length ≤ _; omega)
end Go.Proofs.YtpakefgbjncdiadDoor.Rep
