import Derived.Test.YtnjcenbmdcogpaaGreatDoorNumB
import Derived.Test.YtnjcenbmdcogpaaGreatDoorBuilder
/- digit.Text, digit.List and the page's: texts as bytes. -/
namespace Go.Proofs.YtnjcenbmdcogpaaGreatDoor.Texts
open Go.RowKit Num Bld

/-- A slice that reads as texts. -/
def RdS (w : World) (A : Option Addr) (len : Nat) (ss : List ByteArray) : Prop :=
  ss.length = len ∧ (0 < len → ∃ b off, A = some ⟨b, off, none⟩ ∧ b < w.heap.size ∧ ∀ i, i < len → w.cell? ⟨b, off + i, none⟩ = some (.string (ss.getD i .empty)))
theorem RdS.below {w w' : World} {A : Option Addr} {len : Nat} {ss : List ByteArray} (h : RdS w A len ss) (hb : Below w.heap.size w w') : RdS w' A len ss :=
  ⟨h.1, fun hl => by
    obtain ⟨b, off, rfl, hbl, hc⟩ := h.2 hl
    exact ⟨b, off, rfl, Nat.lt_of_lt_of_le hbl hb.size, fun i hi => (hb.cell (p := ⟨b, _, none⟩) hbl).trans (hc i hi)⟩⟩

def textL (s : ByteArray) : List UInt8 := (numS s.size).data.toList ++ s.data.toList
def textsL (ss : List ByteArray) : List UInt8 := ss.flatMap textL
theorem textsL_snoc (ss : List ByteArray) (s : ByteArray) : textsL (ss ++ [s]) = textsL ss ++ textL s := by simp [textsL]

theorem built_below {w w' : World} {T e : TypeId} {B b : Nat} {bs : List Value} (h : Lib.IsBuilder T e B b bs w) (hb : Below w.heap.size w w') : Lib.IsBuilder T e B b bs w' := by
  rcases h with h | h
  · have hl := h.lt
    obtain ⟨hB, v, hh, hown, hne⟩ := h
    exact .inl ⟨hB, v, (hb.block b hl).trans hh, own_below hown hb, hne⟩
  · have hl := h.lt
    obtain ⟨hB, v, hh, hown, hne⟩ := h
    exact .inr ⟨hB, v, (hb.block b hl).trans hh, own_below hown hb, hne⟩

theorem textsL_take (ss : List ByteArray) (k : Nat) (hk : k < ss.length) : textsL (ss.take (k + 1)) = textsL (ss.take k) ++ textL (ss.getD k .empty) := by
  rw [List.take_succ_eq_append_getElem hk, textsL_snoc, List.getD_eq_getElem?_getD, List.getElem?_eq_getElem hk]; rfl
theorem textsL_le (ss : List ByteArray) (k : Nat) : (textsL (ss.take k)).length ≤ (textsL ss).length := by
  unfold textsL
  conv => rhs; rw [← List.take_append_drop k ss]
  rw [List.flatMap_append, List.length_append]
  omega

set_option maxRecDepth 20000 in
set_option maxHeartbeats 1000000 in
theorem texts_any (A : Option Addr) (len cap : Nat) (ss : List ByteArray) (w : World) (h : RdS w A len ss) (hlen : len ≤ 9223372036854775807) (hs : ∀ i, (ss.getD i .empty).size ≤ 9223372036854775807) (hall : (textsL ss).length ≤ 140737488355328) :
    Calls Tryz.prog 101 #[.slice A len cap] w fun e w' => e = .returned (.string ⟨(textsL ss).toArray⟩) ∧ Below w.heap.size w w' := by
  have HA := Lib.hid hall; clear hall
  have HS := Lib.hid hs; clear hs
  go_enter Tryz.func101, Tryz.ntmps101
  go_wp2
  go_loopw [8] (fun i wr => ∃ k : Nat, i = .int .i64 (k : Int) ∧ k ≤ len ∧ Lib.IsBuilder 77 5 w.heap.size w.heap.size (Lib.byteCells (textsL (ss.take k))) wr ∧ Below w.heap.size w wr ∧ w.heap.size < wr.heap.size)
    (fun i _ => len - (intOf i).toNat)
  case atStart => exact ⟨0, rfl, Nat.zero_le _, Lib.fresh_isBuilder _ _ _, (Below.refl _ _).alloc (Nat.le_refl _) _, by simp⟩
  case round =>
    obtain ⟨k, rfl, hk, hbld, hb, hz⟩ := hrel
    by_cases hlt : k < len
    · obtain ⟨b, off, rfl, hbl, hc⟩ := h.2 (by omega)
      have hc := (hb.cell (p := ⟨b, off + k, none⟩) hbl).trans (hc k hlt)
      have ht := textsL_take ss k (by have := h.1; omega)
      have hle := textsL_le ss (k + 1)
      have hn := HS.out k
      generalize ss.getD k .empty = s at hc ht hn
      have HT := Lib.hid (And.intro ht hle)
      clear ht hle
      have hi0 : (0 : Int) ≤ (k : Int) := by omega
      have hi1 : (k : Int) < (len : Int) := by omega
      go_wp2_with fail
      refine (num_any s.size (by omega) _).mono ?_
      rintro e w1 ⟨rfl, b1⟩
      have k1 := built_below hbld b1
      have hn2 : (textsL (ss.take k)).length + (numS s.size).size + s.size ≤ 140737488355328 := by
        have h1 := congrArg List.length HT.out.1
        have h2 := HT.out.2
        have h3 := HA.out
        unfold textL at h1
        rw [List.length_append, List.length_append] at h1
        have e1 : (numS s.size).data.toList.length = (numS s.size).size := by simp
        have e2 : s.data.toList.length = s.size := by simp
        omega
      have B1 := Lib.hid (And.intro (hb.trans (b1.mono (Nat.le_of_lt hz))) (Nat.lt_of_lt_of_le hz b1.size))
      clear b1 hb hz hbld
      go_wp2_with fail
      refine (write_any _ _ _ _ _ k1 (by rw [Lib.byteCells_length]; omega) (Nat.le_of_lt B1.out.2)).mono ?_
      rintro e w2 ⟨rfl, k2, b2⟩
      have B2 := Lib.hid (And.intro (B1.out.1.trans b2) (Nat.lt_of_lt_of_le B1.out.2 b2.size))
      clear b2 B1 k1
      go_wp2_with fail
      refine (write_any _ _ _ _ _ (.inr k2) (by rw [List.length_append, Lib.byteCells_length, Lib.strCells_length]; omega) (Nat.le_of_lt B2.out.2)).mono ?_
      rintro e w3 ⟨rfl, k3, b3⟩
      have B3 := Lib.hid (And.intro (B2.out.1.trans b3) (Nat.lt_of_lt_of_le B2.out.2 b3.size))
      clear b3 B2 k2
      go_wp2
      refine ⟨⟨k + 1, by go_num, by omega, .inr ?_, B3.out.1, B3.out.2⟩, by simp [intOf]; omega⟩
      rw [HT.out.1]
      unfold textL
      have e : Lib.byteCells (textsL (ss.take k) ++ ((numS s.size).data.toList ++ s.data.toList)) = Lib.byteCells (textsL (ss.take k)) ++ Lib.strCells (numS s.size) ++ Lib.strCells s := by
        simp [Lib.byteCells, Lib.strCells]
      rw [e]
      exact k3
    · have hk2 : k = len := by omega
      subst hk2
      rw [List.take_of_length_le (by have := h.1; omega)] at hbld
      go_wp2_with (go_at_call 57; refine (string_any _ _ _ _ hbld (Nat.le_of_lt hz)).mono ?_; rintro e w1 ⟨rfl, b1⟩)
      go_ret
      exact ⟨rfl, hb.trans b1⟩

set_option maxHeartbeats 400000 in
theorem text_any (s : ByteArray) (w : World) (hs : s.size ≤ 9223372036854775807) (hall : (textL s).length ≤ 140737488355328) :
    Calls Tryz.prog 67 #[.string s] w fun e w' => e = .returned (.string ⟨(textL s).toArray⟩) ∧ Below w.heap.size w w' := by
  have hr : RdS (w.alloc (.cells #[.string s] 9)) (some ⟨w.heap.size, 0, none⟩) 1 [s] := ⟨rfl, fun _ => ⟨_, 0, rfl, by simp, fun i hi => by
    obtain rfl : i = 0 := by omega
    simp⟩⟩
  have hc := texts_any _ 1 1 [s] _ hr (by decide) (fun i => by cases i <;> simp [hs]) (by simpa [textsL] using hall)
  have e1 : textsL [s] = textL s := by simp [textsL]
  rw [e1] at hc
  have HC := Lib.hid hc
  clear hc hr hall
  go_enter Tryz.func67, Tryz.ntmps67
  go_wp2_with (go_at_call 101; refine HC.out.mono ?_; rintro e w1 ⟨rfl, b1⟩)
  go_ret
  exact ⟨rfl, below_box b1⟩
end Go.Proofs.YtnjcenbmdcogpaaGreatDoor.Texts
