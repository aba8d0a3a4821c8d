/- A key's name, by the page. -/
import Derived.Test.YtpakefgbjncdiadDoorKeyName
namespace Go.Proofs.YtpakefgbjncdiadDoor.packetKeys
open Go Go.RowKit Num Dec

set_option maxRecDepth 100000 in
set_option maxHeartbeats 1000000 in
theorem rname_any (k : K3) (hk : k.ok) (w : World) (ht : Tab w) :
    Calls Tryd.prog 18 #[.agg k.cells] w fun e w' => e = .returned (.string (nameB k)) ∧ Below w.heap.size w w' := by
  obtain ⟨c, f, s⟩ := k
  have hl1 := itoa_len c hk.1 hk.2.1
  have hl2 := dec_len20 s hk.2.2
  have HI := Lib.hid (fun W (_ : Tab W) => rwhole_any c hk.1 hk.2.1 W)
  have HF := Lib.hid (fun W (_ : Tab W) => rdigits_any s hk.2.2 W)
  have HT := Lib.hid ht
  clear hk ht
  unfold K3.cells nameB
  simp only
  obtain ⟨A, hA⟩ : ∃ A : ByteArray, A = ⟨(Lib.itoa c).toArray⟩ := ⟨_, rfl⟩
  obtain ⟨B, hB⟩ : ∃ B : ByteArray, B = ⟨(Lib.decDigits s).toArray⟩ := ⟨_, rfl⟩
  have hAs : A.size ≤ 21 := by rw [hA]; simpa [ByteArray.size] using hl1
  have hBs : B.size ≤ 20 := by rw [hB]; simpa [ByteArray.size] using hl2
  rw [← hA] at HI ⊢
  rw [← hB] at HF ⊢
  clear hA hB hl1 hl2
  have c1 : ¬ 9223372036854775807 < A.size + 1 := by omega
  have c1' : A.size + 1 ≤ 9223372036854775807 := by omega
  have c2 : ¬ 9223372036854775807 < A.size + 1 + B.size := by omega
  have c2' : A.size + 1 + B.size ≤ 9223372036854775807 := by omega
  by_cases h0 : f = 0
  · subst h0
    go_enter Tryd.func18, Tryd.ntmps18
    have hK0 : KX (w.alloc (.cells #[.int .i64 c, .int .i64 0, .int .u64 (s : Int)] 24)) w.heap.size c s (w.alloc (.cells #[.int .i64 c, .int .i64 0, .int .u64 (s : Int)] 24)) := ⟨⟨⟨Below.refl _ _, Lib.tabIs_alloc HT.out _⟩, by simp⟩, by simp, by simp⟩
    have HBA := Lib.hid (show Below w.heap.size w (w.alloc (.cells #[.int .i64 c, .int .i64 0, .int .u64 (s : Int)] 24)) from (Below.refl _ _).alloc (Nat.le_refl _) _)
    go_wp2_with fail
    obtain ⟨W0, hW0⟩ : ∃ W0, w.alloc (.cells #[.int .i64 c, .int .i64 0, .int .u64 (s : Int)] 24) = W0 := ⟨_, rfl⟩
    rw [hW0] at hK0 HBA ⊢
    clear hW0
    go_region_held3 (fun W => ((Below W0.heap.size W0 W ∧ Tab W) ∧ w.heap.size < W0.heap.size) ∧ W.cell? ⟨w.heap.size, 0, none⟩ = some (.int .i64 c) ∧ W.cell? ⟨w.heap.size, 2, none⟩ = some (.int .u64 (s : Int)))
      (with_reducible first | assumption | exact hK0 | exact KX.drew hK0 | exact hK2 | exact KX.drew hK2 | exact hK3 | exact KX.drew hK3 | fail)
      (first
        | (go_at_call 17; ((with_reducible refine (HI.out _ (by first | exact (KX.drew hK0).1.1.2 | exact hK0.1.1.2)).mono ?_); rintro e wB ⟨rfl, hbB⟩; have hK2 : KX W0 w.heap.size c s wB := (by first | exact KX.call (KX.drew hK0) hbB | exact KX.call hK0 hbB)))
        | (go_at_call 20; ((with_reducible refine (HF.out _ (by first | exact (KX.drew hK2).1.1.2 | exact hK2.1.1.2)).mono ?_); rintro e wC ⟨rfl, hbC⟩; have hK3 : KX W0 w.heap.size c s wC := (by first | exact KX.call (KX.drew hK2) hbC | exact KX.call hK2 hbC))))
    all_goals
      have HZ := Lib.hid (HBA.out.trans (hK3.1.1.1.mono HBA.out.size))
      clear hK3 hK2 hbB hbC
      go_wp2
      go_ret
      exact ⟨rfl, HZ.out⟩
  · have h0b : (f == 0) = false := by simpa using h0
    rw [if_neg h0]
    go_enter Tryd.func18, Tryd.ntmps18
    have hK0 : KX (w.alloc (.cells #[.int .i64 c, .int .i64 f, .int .u64 (s : Int)] 24)) w.heap.size c s (w.alloc (.cells #[.int .i64 c, .int .i64 f, .int .u64 (s : Int)] 24)) := ⟨⟨⟨Below.refl _ _, Lib.tabIs_alloc HT.out _⟩, by simp⟩, by simp, by simp⟩
    have HBA := Lib.hid (show Below w.heap.size w (w.alloc (.cells #[.int .i64 c, .int .i64 f, .int .u64 (s : Int)] 24)) from (Below.refl _ _).alloc (Nat.le_refl _) _)
    go_wp2_with fail
    obtain ⟨W0, hW0⟩ : ∃ W0, w.alloc (.cells #[.int .i64 c, .int .i64 f, .int .u64 (s : Int)] 24) = W0 := ⟨_, rfl⟩
    rw [hW0] at hK0 HBA ⊢
    clear hW0
    go_region_held3 (fun W => ((Below W0.heap.size W0 W ∧ Tab W) ∧ w.heap.size < W0.heap.size) ∧ W.cell? ⟨w.heap.size, 0, none⟩ = some (.int .i64 c) ∧ W.cell? ⟨w.heap.size, 2, none⟩ = some (.int .u64 (s : Int)))
      (with_reducible first | assumption | exact hK0 | exact KX.drew hK0 | exact hK2 | exact KX.drew hK2 | exact hK3 | exact KX.drew hK3 | fail)
      (first
        | (go_at_call 17; ((with_reducible refine (HI.out _ (by first | exact (KX.drew hK0).1.1.2 | exact hK0.1.1.2)).mono ?_); rintro e wB ⟨rfl, hbB⟩; have hK2 : KX W0 w.heap.size c s wB := (by first | exact KX.call (KX.drew hK0) hbB | exact KX.call hK0 hbB)))
        | (go_at_call 20; ((with_reducible refine (HF.out _ (by first | exact (KX.drew hK2).1.1.2 | exact hK2.1.1.2)).mono ?_); rintro e wC ⟨rfl, hbC⟩; have hK3 : KX W0 w.heap.size c s wC := (by first | exact KX.call (KX.drew hK2) hbC | exact KX.call hK2 hbC))))
    all_goals
      have HZ := Lib.hid (HBA.out.trans (hK3.1.1.1.mono HBA.out.size))
      clear hK3 hK2 hbB hbC
      go_wp2
      go_ret
      exact ⟨rfl, HZ.out⟩
end Go.Proofs.YtpakefgbjncdiadDoor.packetKeys
