/- 'BatchParts' holds for every input, with no condition: parts put together are what was parted. -/
import Derived.Test.YtnidafgjbocfcaaBatchAwake
import Derived.Test.YtnidafgjbocfcaaBatchPart
import Derived.Test.YtnidafgjbocfcaaBatchRefPart
namespace Go.Proofs.Ytnidafgjbocfcaa.Msg
open Go Go.RowKit Go.Shelf

def FewPost (len : Nat) (w : World) (e : Ending) (w' : World) : Prop := ∃ b, e = .returned (.bool b) ∧ (b = true → len ≤ 60) ∧ Below w.heap.size w w'

set_option maxHeartbeats 2000000 in
theorem few27_any (A : Option Addr) (len cap : Nat) (ms : List M7) (w : World) (hr : Rd w A len ms) (hl : len ≤ 9223372036854775807) :
    Calls Try.prog 20 #[.slice A len cap] w (FewPost len w) := by
  go_enter Try.func20, Try.ntmps20
  go_wp2
  go_loopw [3] (fun i wr => ∃ k : Nat, i = .int .i64 (k : Int) ∧ k ≤ len ∧ ∃ q, wr = w.drewN q) (fun i _ => len - (intOf i).toNat)
  case atStart => exact ⟨0, rfl, Nat.zero_le _, 0, rfl⟩
  case round =>
    obtain ⟨k, rfl, hk, q, rfl⟩ := hrel
    by_cases hlt : k < len
    · obtain ⟨b, off, rfl, _, hc⟩ := hr.at (Below.refl _ w) (by omega)
      have hck := hc k hlt
      clear hc hr
      generalize ms.getD k m0 = m at hck
      obtain ⟨c0, c1, c2, c3, c4, c5, c6⟩ := hck
      have hi0 : (0 : Int) ≤ (k : Int) := by omega
      have hi1 : (k : Int) < (len : Int) := by omega
      by_cases hd : (200 : Int) < (m.d.size : Int)
      · go_wp2
        go_ret
        exact ⟨false, rfl, (fun h => by cases h), below_drewN (Below.refl _ _) _⟩
      · by_cases ha : (200 : Int) < (m.a.size : Int)
        · go_wp2
          go_ret
          exact ⟨false, rfl, (fun h => by cases h), below_drewN (Below.refl _ _) _⟩
        · go_wp2
          exact ⟨⟨k + 1, by go_num, by omega, _, rfl⟩, by simp [intOf]; omega⟩
    · obtain rfl : k = len := by omega
      go_wp2
      go_ret
      exact ⟨_, rfl, fun h => by simp at h; omega, below_drewN (Below.refl _ _) _⟩

set_option maxHeartbeats 1000000 in
theorem part_none (A : Option Addr) (len cap : Nat) (most : Int) (hm : most < 1) (w : World) :
    Calls Try.prog 22 #[.slice A len cap, .int .i64 most] w fun e w' => e = .returned (.slice none 0 0) ∧ w' = w := by
  go_enter Try.func22, Try.ntmps22
  go_wp2
  go_ret
  exact ⟨rfl, rfl⟩

set_option maxHeartbeats 1000000 in
theorem ref_part_none (A : Option Addr) (len cap : Nat) (most : Int) (hm : most < 1) (w : World) :
    Calls Try.prog 23 #[.slice A len cap, .int .i64 most] w fun e w' => e = .returned (.slice none 0 0) ∧ w' = w := by
  have hm2 : ¬ (0 : Int) < most := by omega
  have hm3 : most ≤ 0 := by omega
  clear hm
  go_enter Try.func23, Try.ntmps23
  go_wp2
  go_loopw [5, 6] (fun o i wr => o = .slice none 0 0 ∧ i = .int .i64 0 ∧ wr = w) (fun _ _ _ => 0)
  case atStart => exact ⟨rfl, rfl, rfl⟩
  case round =>
    obtain ⟨rfl, rfl, rfl⟩ := hrel
    by_cases hl : (0 : Int) < (len : Int)
    · go_wp2
      go_ret
      exact ⟨rfl, rfl⟩
    · go_wp2
      go_ret
      exact ⟨rfl, rfl⟩

/-- What the law's test reads. -/
def PS (w3 : World) (Gu Gw k : Nat) (a b : Value) (W : World) : Prop := Below w3.heap.size w3 W ∧ (Gu < w3.heap.size ∧ Gw < w3.heap.size) ∧ W.cell? ⟨Gu, k, none⟩ = some a ∧ W.cell? ⟨Gw, k, none⟩ = some b
theorem PS.drew {w3 W : World} {Gu Gw k : Nat} {a b : Value} (h : PS w3 Gu Gw k a b W) : PS w3 Gu Gw k a b W.drew := ⟨h.1.drew, h.2⟩
theorem PS.call {w3 W w1 : World} {Gu Gw k : Nat} {a b : Value} (h : PS w3 Gu Gw k a b W) (hb : Below W.heap.size W w1) : PS w3 Gu Gw k a b w1 := by
  have hz := h.1.size
  exact ⟨h.1.trans (hb.mono hz), h.2.1, (hb.cell (p := ⟨Gu, k, none⟩) (Nat.lt_of_lt_of_le h.2.1.1 hz)).trans h.2.2.1, (hb.cell (p := ⟨Gw, k, none⟩) (Nat.lt_of_lt_of_le h.2.1.2 hz)).trans h.2.2.2⟩

theorem flat_succ (P : List (List M7)) (k : Nat) (h : k < P.length) : (P.take (k + 1)).flatten = (P.take k).flatten ++ P.getD k [] := by
  rw [List.take_succ_eq_append_getElem h, List.flatten_append, List.flatten_singleton, List.getD_eq_getElem?_getD, List.getElem?_eq_getElem h]
  rfl
theorem flat_le (P : List (List M7)) : ∀ k, (P.take k).flatten.length ≤ P.flatten.length := fun k => by
  have : P.flatten = (P.take k).flatten ++ (P.drop k).flatten := by rw [← List.flatten_append, List.take_append_drop]
  rw [this, List.length_append]; omega
theorem Parts.form {w : World} {base : Nat} {v : Value} {us : List Value} {ps : List (List M7)} (h : Parts w base v us ps) : ∃ A c, v = .slice A ps.length c ∧ (0 < ps.length → ∃ G, A = some ⟨G, 0, none⟩ ∧ base ≤ G ∧ G < w.heap.size ∧ ∀ k, k < ps.length → w.cell? ⟨G, k, none⟩ = some (us.getD k undef)) := by
  obtain ⟨A, c, hv⟩ := own_formN h.row
  refine ⟨A, c, by rw [hv, h.len], fun hp => ?_⟩
  obtain ⟨G, C, hG, h1, h2⟩ := h.row.form (by rw [h.len]; exact hp)
  have hA : A = some ⟨G, 0, none⟩ := by rw [hv] at hG; injection hG
  refine ⟨G, hA, h1, h2, fun k hk => ?_⟩
  have := h.row.cells (g := G) (by rw [hG]; rfl) k (us.getD k undef) (by rw [List.getD_eq_getElem?_getD, List.getElem?_eq_getElem (by rw [h.len]; exact hk)]; rfl)
  rwa [show (⟨G, 0, none⟩ : Addr).add k = ⟨G, k, none⟩ by unfold Addr.add; by_cases h : k = 0 <;> simp [h]] at this
end Go.Proofs.Ytnidafgjbocfcaa.Msg
