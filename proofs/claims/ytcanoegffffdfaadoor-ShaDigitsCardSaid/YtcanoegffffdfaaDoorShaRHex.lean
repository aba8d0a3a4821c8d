/- The digits of a sum, by the page: muleteerref02.Hex. -/
import Derived.Test.YtcanoegffffdfaaDoorShaHexMath
import Derived.Deep.QuietTactic
namespace Go.Proofs.YtcanoegffffdfaaDoor.Sha
open Go Go.RowKit

theorem cut_dig (q : Nat) (h : q < 16) : (⟨#[48, 49, 50, 51, 52, 53, 54, 55, 56, 57, 97, 98, 99, 100, 101, 102]⟩ : ByteArray).extract q (q + 1) = ⟨#[hdig q]⟩ := by
  have key : ∀ m : Fin 16, (⟨#[48, 49, 50, 51, 52, 53, 54, 55, 56, 57, 97, 98, 99, 100, 101, 102]⟩ : ByteArray).extract m.val (m.val + 1) = ⟨#[hdig m.val]⟩ := by decide +kernel
  exact key ⟨q, h⟩

set_option maxRecDepth 100000 in
set_option maxHeartbeats 600000 in
theorem rhex_any (l : List UInt8) (hl : l.length = 32) (w : World) :
    Calls Tryd.prog 18 #[.agg (bcells l)] w fun e w' => e = .returned (.string ⟨(hexL l).toArray⟩) ∧ Below w.heap.size w w' := by
  have HL := Lib.hid hl
  go_enter Tryd.func18, Tryd.ntmps18
  go_wp2_with fail
  obtain ⟨D, hD⟩ : ∃ D : ByteArray, D = ⟨#[48, 49, 50, 51, 52, 53, 54, 55, 56, 57, 97, 98, 99, 100, 101, 102]⟩ := ⟨_, rfl⟩
  rw [← hD]
  have hDs : D.size = 16 := by rw [hD]; rfl
  have HC := Lib.hid (fun q (h : q < 16) => hD ▸ cut_dig q h)
  clear hD
  obtain ⟨W0, hW⟩ : ∃ W0, W0 = w.alloc (.cells (bcells l) 25) := ⟨_, rfl⟩
  rw [← hW]
  have hB0 : Below w.heap.size w W0 := by rw [hW]; exact (Below.refl _ _).alloc (Nat.le_refl _) _
  have hC0 : W0.heap[w.heap.size]? = some (.cells (bcells l) 25 (0, 0)) := by
    rw [hW]; exact Array.getElem?_push_size
  clear hW hl
  go_loopw [3, 5] (fun o i wr => ∃ k : Nat, k ≤ 32 ∧ i = .int .i64 k ∧ o = .string ⟨(hexL (l.take k)).toArray⟩ ∧ Below w.heap.size w wr ∧ wr.heap[w.heap.size]? = some (.cells (bcells l) 25 (0, 0))) (fun _ i _ => 32 - (intOf i).toNat)
  case atStart => exact ⟨0, by omega, rfl, rfl, hB0, hC0⟩
  case round =>
    obtain ⟨k, hk, rfl, rfl, hB, hC⟩ := hrel
    clear hB0 hC0
    rcases Nat.lt_or_ge k 32 with hlt | hge
    · have hk32 : (k : Int) < 32 := by omega
      have ck := (cell_blk hC k).trans (bcells_at l k (by rw [HL.out]; exact hlt))
      have hnx := hexL_take l k (by rw [HL.out]; exact hlt)
      have hbx : (l.getD k 0).toNat < 256 := (l.getD k 0).toNat_lt
      have hln : (hexL (l.take k)).length ≤ 64 := by rw [hexL_len, List.length_take]; omega
      generalize (l.getD k 0).toNat = x at *
      generalize hexL (l.take k) = O at *
      obtain ⟨O', hO'⟩ : ∃ O' : ByteArray, O' = ⟨O.toArray⟩ := ⟨_, rfl⟩
      rw [← hO']
      have hs : O'.size ≤ 64 := by rw [hO']; exact hln
      obtain ⟨q, hq⟩ : ∃ q : Nat, x / 16 = q := ⟨_, rfl⟩
      obtain ⟨r, hr⟩ : ∃ r : Nat, x % 16 = r := ⟨_, rfl⟩
      have e1 : (x : Int) / 16 = (q : Int) := by omega
      have e2 : (x : Int).tdiv 16 = (q : Int) := by rw [Int.tdiv_eq_ediv_of_nonneg (by omega)]; exact e1
      have e3 : (x : Int) % 16 = (r : Int) := by omega
      have e4 : (x : Int).tmod 16 = (r : Int) := by rw [Int.tmod_eq_emod_of_nonneg (by omega)]; exact e3
      have q16 : (q : Int) < 16 := by omega
      have r16 : (r : Int) < 16 := by omega
      rw [hq, hr] at hnx
      have HN := Lib.hid hnx
      have HO := Lib.hid hO'
      have HC2 := Lib.hid hC
      have HB := Lib.hid hB
      clear hnx hO' hC hB hq hr
      go_wp2_with fail
      go_quiet (fail)
      have hv : O' ++ D.extract q (q + 1) ++ D.extract r (r + 1) = ⟨(hexL (l.take (k + 1))).toArray⟩ := by
        rw [HC.out q (by omega), HC.out r (by omega), HN.out, HO.out]
        apply ByteArray.ext
        simp [ByteArray.data_append]
      rw [hv]
      clear hv
      go_wp2
      go_roundw
      case rel => exact ⟨k + 1, by omega, by go_num, rfl, below_drewN HB.out _, HC2.out⟩
      case measure => simp [intOf]; omega
    · have hk32 : k = 32 := by omega
      subst hk32
      rw [List.take_of_length_le (by rw [HL.out]; exact Nat.le_refl _)]
      go_wp2
      go_ret
      exact ⟨rfl, hB⟩
end Go.Proofs.YtcanoegffffdfaaDoor.Sha
