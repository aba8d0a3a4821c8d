/- Rows of events. -/
import Derived.Test.YthamemaomedldaaEventRows
namespace Go.Proofs.Ythamemaomedldaa.Ev
open Go Go.RowKit

/-- Events one behind the other. -/
theorem row_at {w : World} {base n c : Nat} {A : Option Addr} {ms : List E8} (h : w.ownsRow base 30 8 (.slice A n c) n (evs ms)) (hn : ms.length = n) : Rd w A n ms := by
  refine ⟨hn, fun hl => ?_⟩
  rcases h.2 with ⟨_, h0⟩ | ⟨g, cap, cur, hv, _, hh, hc, _, hsz, htk⟩
  · omega
  · injection hv with hA _ hcc
    subst hA hcc
    refine ⟨g, 0, rfl, lt_blk hh, fun i hi j v hv => ?_⟩
    have hj : j < 8 := by
      have := (Array.getElem?_eq_some_iff.1 hv).1
      simpa [E8.cells] using this
    rw [cell_of_row w g _ cur _ (0, 0) hh, ← Array.getElem?_toList]
    have h1 : (cur.toList.take (n * 8))[0 + i * 8 + j]? = cur.toList[0 + i * 8 + j]? := List.getElem?_take_of_lt (by omega)
    rw [← h1, htk, Nat.zero_add, evs_at ms i j (by omega) hj, hv]

theorem own_form8 {w : World} {base e n size : Nat} {v : Value} {xs : List Value} (h : w.ownsRow base e size v n xs) : ∃ A c, v = .slice A n c := by
  rcases h.2 with ⟨rfl, rfl⟩ | ⟨g, cap, cur, rfl, _⟩
  · exact ⟨none, 0, rfl⟩
  · exact ⟨_, _, rfl⟩

theorem infoE : (Try.prog.info? 30).map (fun i => (i.zero, i.size, i.bytes)) = some (some (.agg #[.int .i64 0, .int .u64 0, .int .i64 0, .int .i64 0, .int .u64 0, .int .u64 0, .string ⟨#[]⟩, .string ⟨#[]⟩]), 8, 80) := by kernel_rfl

theorem cells8_new (w : World) (m : E8) (t : TypeId) : ∀ j u, (m.cells.toList)[j]? = some u → (w.alloc (.cells m.cells t)).cell? ((⟨w.heap.size, 0, none⟩ : Addr).add j) = some u := by
  intro j u hj
  have : (⟨w.heap.size, 0, none⟩ : Addr).add j = ⟨w.heap.size, j, none⟩ := by unfold Addr.add; by_cases h : j = 0 <;> simp [h]
  rw [this, cell_of_row _ _ _ _ _ (0, 0) (heap_alloc_new w _), ← Array.getElem?_toList]
  exact hj

theorem cells8_one (m : E8) : ∀ u ∈ m.cells.toList, u.oneCell' = true := by
  intro u hu
  simp [E8.cells] at hu
  rcases hu with rfl | rfl | rfl | rfl | rfl | rfl | rfl | rfl <;> rfl
end Go.Proofs.Ythamemaomedldaa.Ev
