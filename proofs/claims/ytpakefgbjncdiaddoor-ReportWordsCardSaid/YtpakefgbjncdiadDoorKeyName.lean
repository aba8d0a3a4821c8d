/- A key's name, by the program and by the page; which of two keys is ahead. -/
import Derived.Test.YtpakefgbjncdiadDoorFmtUint
import Derived.Lib.SmallJoins
import Derived.Deep.RegionLawGrows
import Derived.Deep.RegionHeld3
namespace Go.Proofs.YtpakefgbjncdiadDoor.packetKeys
open Go Go.RowKit Num Dec

structure K3 where
  c : Int
  f : Int
  s : Nat
def K3.ok (k : K3) : Prop := -9223372036854775808 ≤ k.c ∧ k.c ≤ 9223372036854775807 ∧ k.s < 18446744073709551616
def K3.cells (k : K3) : Array Value := #[.int .i64 k.c, .int .i64 k.f, .int .u64 (k.s : Int)]

theorem tab_global : Tryd.prog.globalNamed "internal/strconv.uint64pow10" = some (match Tryd.prog.globalNamed "internal/strconv.uint64pow10" with | some g => g | none => 0) := by kernel_rfl
theorem tab_below {w w' : World} (h : Tab w) (hb : Below w.heap.size w w') : Tab w' := Go.Joins.tab_stays tab_global h hb (Nat.le_refl _)

theorem itoa_len (n : Int) (h0 : -9223372036854775808 ≤ n) (h1 : n ≤ 9223372036854775807) : (Lib.itoa n).length ≤ 21 := by
  by_cases h : n < 0
  · obtain ⟨u, rfl⟩ : ∃ u : Nat, n = -(u : Int) := ⟨(-n).toNat, by omega⟩
    rw [itoa_neg u (by omega), List.length_cons]
    have := dec_len20 u (by omega)
    omega
  · obtain ⟨u, rfl⟩ : ∃ u : Nat, n = (u : Int) := ⟨n.toNat, by omega⟩
    rw [itoa_pos]
    have := dec_len20 u (by omega)
    omega

/-- From a key's box on. -/
abbrev KX (w0 : World) (b : Nat) (c s : Int) (W : World) : Prop := ((Below w0.heap.size w0 W ∧ Tab W) ∧ b < w0.heap.size) ∧ W.cell? ⟨b, 0, none⟩ = some (.int .i64 c) ∧ W.cell? ⟨b, 2, none⟩ = some (.int .u64 s)
theorem KX.call {w0 W W1 : World} {b : Nat} {c s : Int} (h : KX w0 b c s W) (hb : Below W.heap.size W W1) : KX w0 b c s W1 :=
  have hl : b < W.heap.size := Nat.lt_of_lt_of_le h.1.2 h.1.1.1.size
  ⟨⟨⟨h.1.1.1.trans (hb.mono h.1.1.1.size), tab_below h.1.1.2 hb⟩, h.1.2⟩, (hb.cell (p := ⟨b, 0, none⟩) hl).trans h.2.1, (hb.cell (p := ⟨b, 2, none⟩) hl).trans h.2.2⟩
theorem KX.drew {w0 W : World} {b : Nat} {c s : Int} (h : KX w0 b c s W) : KX w0 b c s W.drew := h.call (Below.refl _ _).drew

def nameB (k : K3) : ByteArray := ((⟨(Lib.itoa k.c).toArray⟩ : ByteArray) ++ (if k.f = 0 then ⟨#[97]⟩ else ⟨#[98]⟩)) ++ ⟨(Lib.decDigits k.s).toArray⟩

set_option maxRecDepth 100000 in
set_option maxHeartbeats 1000000 in
theorem name_any (k : K3) (hk : k.ok) (w : World) (ht : Tab w) :
    Calls Tryd.prog 13 #[.agg k.cells] w fun e w' => e = .returned (.string (nameB k)) ∧ Below w.heap.size w w' := by
  obtain ⟨c, f, s⟩ := k
  have hl1 := itoa_len c hk.1 hk.2.1
  have hl2 := dec_len20 s hk.2.2
  have HI := Lib.hid (fun W h => itoa_any c hk.1 hk.2.1 W h)
  have HF := Lib.hid (fun W h => fmt_any s hk.2.2 W h)
  have HT := Lib.hid ht
  clear hk ht
  unfold K3.cells nameB
  simp only
  obtain ⟨A, hA⟩ : ∃ A : ByteArray, A = ⟨(Lib.itoa c).toArray⟩ := ⟨_, rfl⟩
  obtain ⟨B, hB⟩ : ∃ B : ByteArray, B = ⟨(Lib.decDigits s).toArray⟩ := ⟨_, rfl⟩
  have hAs : A.size ≤ 21 := by rw [hA]; simpa [ByteArray.size] using hl1
  have hBs : B.size ≤ 20 := by rw [hB]; simpa [ByteArray.size] using hl2
  rw [← hA] at HI ⊢
  rw [← hB] at HF ⊢
  clear hA hB hl1 hl2
  have c1 : ¬ 9223372036854775807 < A.size + 1 := by omega
  have c1' : A.size + 1 ≤ 9223372036854775807 := by omega
  have c2 : ¬ 9223372036854775807 < A.size + 1 + B.size := by omega
  have c2' : A.size + 1 + B.size ≤ 9223372036854775807 := by omega
  by_cases h0 : f = 0
  · subst h0
    go_enter Tryd.func13, Tryd.ntmps13
    have hK0 : KX (w.alloc (.cells #[.int .i64 c, .int .i64 0, .int .u64 (s : Int)] 24)) w.heap.size c s (w.alloc (.cells #[.int .i64 c, .int .i64 0, .int .u64 (s : Int)] 24)) := ⟨⟨⟨Below.refl _ _, Lib.tabIs_alloc HT.out _⟩, by simp⟩, by simp, by simp⟩
    have HBA := Lib.hid (show Below w.heap.size w (w.alloc (.cells #[.int .i64 c, .int .i64 0, .int .u64 (s : Int)] 24)) from (Below.refl _ _).alloc (Nat.le_refl _) _)
    go_wp2_with fail
    obtain ⟨W0, hW0⟩ : ∃ W0, w.alloc (.cells #[.int .i64 c, .int .i64 0, .int .u64 (s : Int)] 24) = W0 := ⟨_, rfl⟩
    rw [hW0] at hK0 HBA ⊢
    clear hW0
    go_region_held3 (fun W => ((Below W0.heap.size W0 W ∧ Tab W) ∧ w.heap.size < W0.heap.size) ∧ W.cell? ⟨w.heap.size, 0, none⟩ = some (.int .i64 c) ∧ W.cell? ⟨w.heap.size, 2, none⟩ = some (.int .u64 (s : Int)))
      (with_reducible first | assumption | exact hK0 | exact KX.drew hK0 | exact hK2 | exact KX.drew hK2 | exact hK3 | exact KX.drew hK3 | fail)
      (first
        | (go_at_call 12; ((with_reducible refine (HI.out _ (by first | exact (KX.drew hK0).1.1.2 | exact hK0.1.1.2)).mono ?_); rintro e wB ⟨rfl, hbB⟩; have hK2 : KX W0 w.heap.size c s wB := (by first | exact KX.call (KX.drew hK0) hbB | exact KX.call hK0 hbB)))
        | (go_at_call 24; ((with_reducible refine (HF.out _ (by first | exact (KX.drew hK2).1.1.2 | exact hK2.1.1.2)).mono ?_); rintro e wC ⟨rfl, hbC⟩; have hK3 : KX W0 w.heap.size c s wC := (by first | exact KX.call (KX.drew hK2) hbC | exact KX.call hK2 hbC))))
    all_goals
      have HZ := Lib.hid (HBA.out.trans (hK3.1.1.1.mono HBA.out.size))
      clear hK3 hK2 hbB hbC
      go_wp2
      go_ret
      exact ⟨rfl, HZ.out⟩
  · have h0b : (f == 0) = false := by simpa using h0
    rw [if_neg h0]
    go_enter Tryd.func13, Tryd.ntmps13
    have hK0 : KX (w.alloc (.cells #[.int .i64 c, .int .i64 f, .int .u64 (s : Int)] 24)) w.heap.size c s (w.alloc (.cells #[.int .i64 c, .int .i64 f, .int .u64 (s : Int)] 24)) := ⟨⟨⟨Below.refl _ _, Lib.tabIs_alloc HT.out _⟩, by simp⟩, by simp, by simp⟩
    have HBA := Lib.hid (show Below w.heap.size w (w.alloc (.cells #[.int .i64 c, .int .i64 f, .int .u64 (s : Int)] 24)) from (Below.refl _ _).alloc (Nat.le_refl _) _)
    go_wp2_with fail
    obtain ⟨W0, hW0⟩ : ∃ W0, w.alloc (.cells #[.int .i64 c, .int .i64 f, .int .u64 (s : Int)] 24) = W0 := ⟨_, rfl⟩
    rw [hW0] at hK0 HBA ⊢
    clear hW0
    go_region_held3 (fun W => ((Below W0.heap.size W0 W ∧ Tab W) ∧ w.heap.size < W0.heap.size) ∧ W.cell? ⟨w.heap.size, 0, none⟩ = some (.int .i64 c) ∧ W.cell? ⟨w.heap.size, 2, none⟩ = some (.int .u64 (s : Int)))
      (with_reducible first | assumption | exact hK0 | exact KX.drew hK0 | exact hK2 | exact KX.drew hK2 | exact hK3 | exact KX.drew hK3 | fail)
      (first
        | (go_at_call 12; ((with_reducible refine (HI.out _ (by first | exact (KX.drew hK0).1.1.2 | exact hK0.1.1.2)).mono ?_); rintro e wB ⟨rfl, hbB⟩; have hK2 : KX W0 w.heap.size c s wB := (by first | exact KX.call (KX.drew hK0) hbB | exact KX.call hK0 hbB)))
        | (go_at_call 24; ((with_reducible refine (HF.out _ (by first | exact (KX.drew hK2).1.1.2 | exact hK2.1.1.2)).mono ?_); rintro e wC ⟨rfl, hbC⟩; have hK3 : KX W0 w.heap.size c s wC := (by first | exact KX.call (KX.drew hK2) hbC | exact KX.call hK2 hbC))))
    all_goals
      have HZ := Lib.hid (HBA.out.trans (hK3.1.1.1.mono HBA.out.size))
      clear hK3 hK2 hbB hbC
      go_wp2
      go_ret
      exact ⟨rfl, HZ.out⟩
end Go.Proofs.YtpakefgbjncdiadDoor.packetKeys
