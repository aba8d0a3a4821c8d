/- Steps: which are right. -/
import Derived.Test.YtnjcenbmdcogpaaGreatDoorStpWord
import Derived.Test.YtnjcenbmdcogpaaGreatDoorPktRight
namespace Go.Proofs.YtnjcenbmdcogpaaGreatDoor.Sp
open Go Go.Lib Go.RowKit

theorem box8 {w w1 : World} {x : St} {T : TypeId} (hb : Below (w.alloc (.cells x.cells T)).heap.size (w.alloc (.cells x.cells T)) w1) :
    w1.cell? ⟨w.heap.size, 5, none⟩ = some (.int .u64 x.s) := by
  have h : ∀ i, w1.cell? ⟨w.heap.size, i, none⟩ = _ := fun i => hb.cell (p := ⟨w.heap.size, i, none⟩) (by simp)
  exact (h 5).trans (by simp [St.cells])
theorem eq_no (x : St) (w : World) : (binOp .eql 24 (.agg #[.int .i64 x.c, .int .i64 x.f, .int .u64 x.s, .int .u64 x.t, .string x.d]) (.agg #[.int .i64 0, .int .i64 0, .int .u64 0, .int .u64 0, .string ⟨#[]⟩])).run Tryz.prog w = .ok (.bool (decide (noP x))) w := by
  have hd : (x.d.toList == (⟨#[]⟩ : ByteArray).toList) = decide (x.d = ⟨#[]⟩) := by
    by_cases h : x.d = ⟨#[]⟩
    · rw [h]; simp
    · rw [tl_ne h]; simp [h]
  have e : decide (noP x) = (x.c == 0 && (x.f == 0 && (x.s == 0 && (x.t == 0 && x.d.toList == (⟨#[]⟩ : ByteArray).toList)))) := by
    rw [hd, Bool.eq_iff_iff, decide_eq_true_iff]
    simp [noP]
  have hd2 : (x.d.toList = []) ↔ (x.d = ⟨#[]⟩) := by
    have := hd
    simp at this
    constructor
    · intro h; simpa [h] using this
    · intro h; rw [h, ByteArray.toList_eq]
  clear hd
  rw [e]
  go_simp
  repeat' split
  all_goals simp_all

theorem rightP_1 (sd n c f s t : Int) (d : ByteArray) : rightP ⟨1, sd, n, c, f, s, t, d⟩ ↔ (0 ≤ sd ∧ sd ≤ 0 ∧ 0 ≤ n ∧ n ≤ 2147483647 ∧ noP (⟨1, sd, n, c, f, s, t, d⟩ : St)) := by
  unfold rightP
  constructor
  · rintro (h | h | h | h | h | h | h | h)
    all_goals dsimp only at h
    all_goals first | (exfalso; have := h.1; omega) | skip
    all_goals (refine ⟨by omega, by omega, by omega, by omega, ?_⟩; first | exact h.2.2.2 | exact h.2.2.2.2)
  · rintro ⟨h1, h2, h3, h4, h5⟩
    dsimp only
    exact .inl ⟨rfl, by omega, h3, h4, h5⟩

set_option maxHeartbeats 1000000 in
theorem right_1 (sd n c f s t : Int) (d : ByteArray) (w : World) : Calls Tryz.prog 10 #[.agg #[.int .i64 1, .int .i64 sd, .int .i64 n, .int .i64 c, .int .i64 f, .int .u64 s, .int .u64 t, .string d]] w fun e w' => e = .returned (.bool (decide (rightP ⟨1, sd, n, c, f, s, t, d⟩))) ∧ Below w.heap.size w w' := by
  have hr := rightP_1 sd n c f s t d
  by_cases a1 : sd < 0
  · have HR := Lib.hid (show decide (rightP (⟨1, sd, n, c, f, s, t, d⟩ : St)) = false from decide_eq_false fun h => by have := hr.1 h; omega)
    clear hr
    go_enter Tryz.func10, Tryz.ntmps10
    go_wp2_with fail
    refine (parts_1 _).mono ?_
    rintro _ w1 ⟨rfl, hq1⟩
    obtain rfl := hq1.symm
    go_wp2_with fail
    refine (bounds_1 _).mono ?_
    rintro _ w2 ⟨rfl, hq2⟩
    obtain rfl := hq2.symm
    go_wp2_with fail
    go_ret
    exact ⟨by rw [HR.out]; rfl, (Below.refl _ _).alloc (Nat.le_refl _) _⟩
  have b1 : ¬ sd < 0 := a1
  by_cases a2 : 0 < sd
  · have HR := Lib.hid (show decide (rightP (⟨1, sd, n, c, f, s, t, d⟩ : St)) = false from decide_eq_false fun h => by have := hr.1 h; omega)
    clear hr
    go_enter Tryz.func10, Tryz.ntmps10
    go_wp2_with fail
    refine (parts_1 _).mono ?_
    rintro _ w1 ⟨rfl, hq1⟩
    obtain rfl := hq1.symm
    go_wp2_with fail
    refine (bounds_1 _).mono ?_
    rintro _ w2 ⟨rfl, hq2⟩
    obtain rfl := hq2.symm
    go_wp2_with fail
    go_ret
    exact ⟨by rw [HR.out]; rfl, (Below.refl _ _).alloc (Nat.le_refl _) _⟩
  have b2 : ¬ 0 < sd := a2
  by_cases a3 : n < 0
  · have HR := Lib.hid (show decide (rightP (⟨1, sd, n, c, f, s, t, d⟩ : St)) = false from decide_eq_false fun h => by have := hr.1 h; omega)
    clear hr
    go_enter Tryz.func10, Tryz.ntmps10
    go_wp2_with fail
    refine (parts_1 _).mono ?_
    rintro _ w1 ⟨rfl, hq1⟩
    obtain rfl := hq1.symm
    go_wp2_with fail
    refine (bounds_1 _).mono ?_
    rintro _ w2 ⟨rfl, hq2⟩
    obtain rfl := hq2.symm
    go_wp2_with fail
    go_ret
    exact ⟨by rw [HR.out]; rfl, (Below.refl _ _).alloc (Nat.le_refl _) _⟩
  have b3 : ¬ n < 0 := a3
  by_cases a4 : 2147483647 < n
  · have HR := Lib.hid (show decide (rightP (⟨1, sd, n, c, f, s, t, d⟩ : St)) = false from decide_eq_false fun h => by have := hr.1 h; omega)
    clear hr
    go_enter Tryz.func10, Tryz.ntmps10
    go_wp2_with fail
    refine (parts_1 _).mono ?_
    rintro _ w1 ⟨rfl, hq1⟩
    obtain rfl := hq1.symm
    go_wp2_with fail
    refine (bounds_1 _).mono ?_
    rintro _ w2 ⟨rfl, hq2⟩
    obtain rfl := hq2.symm
    go_wp2_with fail
    go_ret
    exact ⟨by rw [HR.out]; rfl, (Below.refl _ _).alloc (Nat.le_refl _) _⟩
  have b4 : ¬ 2147483647 < n := a4
  have HR := Lib.hid (show decide (rightP (⟨1, sd, n, c, f, s, t, d⟩ : St)) = decide (noP (⟨1, sd, n, c, f, s, t, d⟩ : St)) from decide_eq_decide.2 ⟨fun h => (hr.1 h).2.2.2.2, fun h => hr.2 ⟨by omega, by omega, by omega, by omega, h⟩⟩)
  clear hr
  have heq := eq_no (⟨1, sd, n, c, f, s, t, d⟩ : St)
  go_enter Tryz.func10, Tryz.ntmps10
  go_wp2_with fail
  refine (parts_1 _).mono ?_
  rintro _ w1 ⟨rfl, hq1⟩
  obtain rfl := hq1.symm
  go_wp2_with fail
  refine (bounds_1 _).mono ?_
  rintro _ w2 ⟨rfl, hq2⟩
  obtain rfl := hq2.symm
  go_wp2_with fail
  go_ret
  exact ⟨by rw [HR.out]; rfl, (Below.refl _ _).alloc (Nat.le_refl _) _⟩

theorem rightP_2 (sd n c f s t : Int) (d : ByteArray) : rightP ⟨2, sd, n, c, f, s, t, d⟩ ↔ (0 ≤ sd ∧ sd ≤ 1 ∧ 0 ≤ n ∧ n ≤ 0 ∧ noP (⟨2, sd, n, c, f, s, t, d⟩ : St)) := by
  unfold rightP
  constructor
  · rintro (h | h | h | h | h | h | h | h)
    all_goals dsimp only at h
    all_goals first | (exfalso; have := h.1; omega) | skip
    all_goals (refine ⟨by omega, by omega, by omega, by omega, ?_⟩; first | exact h.2.2.2 | exact h.2.2.2.2)
  · rintro ⟨h1, h2, h3, h4, h5⟩
    dsimp only
    exact .inr (.inl ⟨rfl, by omega, by omega, h5⟩)

set_option maxHeartbeats 1000000 in
theorem right_2 (sd n c f s t : Int) (d : ByteArray) (w : World) : Calls Tryz.prog 10 #[.agg #[.int .i64 2, .int .i64 sd, .int .i64 n, .int .i64 c, .int .i64 f, .int .u64 s, .int .u64 t, .string d]] w fun e w' => e = .returned (.bool (decide (rightP ⟨2, sd, n, c, f, s, t, d⟩))) ∧ Below w.heap.size w w' := by
  have hr := rightP_2 sd n c f s t d
  by_cases a1 : sd < 0
  · have HR := Lib.hid (show decide (rightP (⟨2, sd, n, c, f, s, t, d⟩ : St)) = false from decide_eq_false fun h => by have := hr.1 h; omega)
    clear hr
    go_enter Tryz.func10, Tryz.ntmps10
    go_wp2_with fail
    refine (parts_2 _).mono ?_
    rintro _ w1 ⟨rfl, hq1⟩
    obtain rfl := hq1.symm
    go_wp2_with fail
    refine (bounds_2 _).mono ?_
    rintro _ w2 ⟨rfl, hq2⟩
    obtain rfl := hq2.symm
    go_wp2_with fail
    go_ret
    exact ⟨by rw [HR.out]; rfl, (Below.refl _ _).alloc (Nat.le_refl _) _⟩
  have b1 : ¬ sd < 0 := a1
  by_cases a2 : 1 < sd
  · have HR := Lib.hid (show decide (rightP (⟨2, sd, n, c, f, s, t, d⟩ : St)) = false from decide_eq_false fun h => by have := hr.1 h; omega)
    clear hr
    go_enter Tryz.func10, Tryz.ntmps10
    go_wp2_with fail
    refine (parts_2 _).mono ?_
    rintro _ w1 ⟨rfl, hq1⟩
    obtain rfl := hq1.symm
    go_wp2_with fail
    refine (bounds_2 _).mono ?_
    rintro _ w2 ⟨rfl, hq2⟩
    obtain rfl := hq2.symm
    go_wp2_with fail
    go_ret
    exact ⟨by rw [HR.out]; rfl, (Below.refl _ _).alloc (Nat.le_refl _) _⟩
  have b2 : ¬ 1 < sd := a2
  by_cases a3 : n < 0
  · have HR := Lib.hid (show decide (rightP (⟨2, sd, n, c, f, s, t, d⟩ : St)) = false from decide_eq_false fun h => by have := hr.1 h; omega)
    clear hr
    go_enter Tryz.func10, Tryz.ntmps10
    go_wp2_with fail
    refine (parts_2 _).mono ?_
    rintro _ w1 ⟨rfl, hq1⟩
    obtain rfl := hq1.symm
    go_wp2_with fail
    refine (bounds_2 _).mono ?_
    rintro _ w2 ⟨rfl, hq2⟩
    obtain rfl := hq2.symm
    go_wp2_with fail
    go_ret
    exact ⟨by rw [HR.out]; rfl, (Below.refl _ _).alloc (Nat.le_refl _) _⟩
  have b3 : ¬ n < 0 := a3
  by_cases a4 : 0 < n
  · have HR := Lib.hid (show decide (rightP (⟨2, sd, n, c, f, s, t, d⟩ : St)) = false from decide_eq_false fun h => by have := hr.1 h; omega)
    clear hr
    go_enter Tryz.func10, Tryz.ntmps10
    go_wp2_with fail
    refine (parts_2 _).mono ?_
    rintro _ w1 ⟨rfl, hq1⟩
    obtain rfl := hq1.symm
    go_wp2_with fail
    refine (bounds_2 _).mono ?_
    rintro _ w2 ⟨rfl, hq2⟩
    obtain rfl := hq2.symm
    go_wp2_with fail
    go_ret
    exact ⟨by rw [HR.out]; rfl, (Below.refl _ _).alloc (Nat.le_refl _) _⟩
  have b4 : ¬ 0 < n := a4
  have HR := Lib.hid (show decide (rightP (⟨2, sd, n, c, f, s, t, d⟩ : St)) = decide (noP (⟨2, sd, n, c, f, s, t, d⟩ : St)) from decide_eq_decide.2 ⟨fun h => (hr.1 h).2.2.2.2, fun h => hr.2 ⟨by omega, by omega, by omega, by omega, h⟩⟩)
  clear hr
  have heq := eq_no (⟨2, sd, n, c, f, s, t, d⟩ : St)
  go_enter Tryz.func10, Tryz.ntmps10
  go_wp2_with fail
  refine (parts_2 _).mono ?_
  rintro _ w1 ⟨rfl, hq1⟩
  obtain rfl := hq1.symm
  go_wp2_with fail
  refine (bounds_2 _).mono ?_
  rintro _ w2 ⟨rfl, hq2⟩
  obtain rfl := hq2.symm
  go_wp2_with fail
  go_ret
  exact ⟨by rw [HR.out]; rfl, (Below.refl _ _).alloc (Nat.le_refl _) _⟩

theorem rightP_3 (sd n c f s t : Int) (d : ByteArray) : rightP ⟨3, sd, n, c, f, s, t, d⟩ ↔ (0 ≤ sd ∧ sd ≤ 0 ∧ 0 ≤ n ∧ n ≤ 0 ∧ pkP (⟨3, sd, n, c, f, s, t, d⟩ : St)) := by
  unfold rightP
  constructor
  · rintro (h | h | h | h | h | h | h | h)
    all_goals dsimp only at h
    all_goals first | (exfalso; have := h.1; omega) | skip
    all_goals (refine ⟨by omega, by omega, by omega, by omega, ?_⟩; first | exact h.2.2.2 | exact h.2.2.2.2)
  · rintro ⟨h1, h2, h3, h4, h5⟩
    dsimp only
    exact .inr (.inr (.inl ⟨rfl, by omega, by omega, h5⟩))

set_option maxHeartbeats 1000000 in
theorem right_3 (sd n c f s t : Int) (d : ByteArray) (w : World) : Calls Tryz.prog 10 #[.agg #[.int .i64 3, .int .i64 sd, .int .i64 n, .int .i64 c, .int .i64 f, .int .u64 s, .int .u64 t, .string d]] w fun e w' => e = .returned (.bool (decide (rightP ⟨3, sd, n, c, f, s, t, d⟩))) ∧ Below w.heap.size w w' := by
  have hr := rightP_3 sd n c f s t d
  by_cases a1 : sd < 0
  · have HR := Lib.hid (show decide (rightP (⟨3, sd, n, c, f, s, t, d⟩ : St)) = false from decide_eq_false fun h => by have := hr.1 h; omega)
    clear hr
    go_enter Tryz.func10, Tryz.ntmps10
    go_wp2_with fail
    refine (parts_3 _).mono ?_
    rintro _ w1 ⟨rfl, hq1⟩
    obtain rfl := hq1.symm
    go_wp2_with fail
    refine (bounds_3 _).mono ?_
    rintro _ w2 ⟨rfl, hq2⟩
    obtain rfl := hq2.symm
    go_wp2_with fail
    go_ret
    exact ⟨by rw [HR.out]; rfl, (Below.refl _ _).alloc (Nat.le_refl _) _⟩
  have b1 : ¬ sd < 0 := a1
  by_cases a2 : 0 < sd
  · have HR := Lib.hid (show decide (rightP (⟨3, sd, n, c, f, s, t, d⟩ : St)) = false from decide_eq_false fun h => by have := hr.1 h; omega)
    clear hr
    go_enter Tryz.func10, Tryz.ntmps10
    go_wp2_with fail
    refine (parts_3 _).mono ?_
    rintro _ w1 ⟨rfl, hq1⟩
    obtain rfl := hq1.symm
    go_wp2_with fail
    refine (bounds_3 _).mono ?_
    rintro _ w2 ⟨rfl, hq2⟩
    obtain rfl := hq2.symm
    go_wp2_with fail
    go_ret
    exact ⟨by rw [HR.out]; rfl, (Below.refl _ _).alloc (Nat.le_refl _) _⟩
  have b2 : ¬ 0 < sd := a2
  by_cases a3 : n < 0
  · have HR := Lib.hid (show decide (rightP (⟨3, sd, n, c, f, s, t, d⟩ : St)) = false from decide_eq_false fun h => by have := hr.1 h; omega)
    clear hr
    go_enter Tryz.func10, Tryz.ntmps10
    go_wp2_with fail
    refine (parts_3 _).mono ?_
    rintro _ w1 ⟨rfl, hq1⟩
    obtain rfl := hq1.symm
    go_wp2_with fail
    refine (bounds_3 _).mono ?_
    rintro _ w2 ⟨rfl, hq2⟩
    obtain rfl := hq2.symm
    go_wp2_with fail
    go_ret
    exact ⟨by rw [HR.out]; rfl, (Below.refl _ _).alloc (Nat.le_refl _) _⟩
  have b3 : ¬ n < 0 := a3
  by_cases a4 : 0 < n
  · have HR := Lib.hid (show decide (rightP (⟨3, sd, n, c, f, s, t, d⟩ : St)) = false from decide_eq_false fun h => by have := hr.1 h; omega)
    clear hr
    go_enter Tryz.func10, Tryz.ntmps10
    go_wp2_with fail
    refine (parts_3 _).mono ?_
    rintro _ w1 ⟨rfl, hq1⟩
    obtain rfl := hq1.symm
    go_wp2_with fail
    refine (bounds_3 _).mono ?_
    rintro _ w2 ⟨rfl, hq2⟩
    obtain rfl := hq2.symm
    go_wp2_with fail
    go_ret
    exact ⟨by rw [HR.out]; rfl, (Below.refl _ _).alloc (Nat.le_refl _) _⟩
  have b4 : ¬ 0 < n := a4
  by_cases hp : Pk.pright c f d = true
  · by_cases hs : s = 0
    · have HR := Lib.hid (show decide (rightP (⟨3, sd, n, c, f, s, t, d⟩ : St)) = true from decide_eq_true (hr.2 ⟨by omega, by omega, by omega, by omega, by
        unfold Pk.pright at hp
        have := of_decide_eq_true hp
        exact ⟨this.1, this.2.1, this.2.2.1, this.2.2.2, hs⟩⟩))
      have HP := Lib.hid hp
      clear hr hp
      subst hs
      go_enter Tryz.func10, Tryz.ntmps10
      go_wp2_with fail
      refine (parts_3 _).mono ?_
      rintro _ w1 ⟨rfl, hq1⟩
      obtain rfl := hq1.symm
      go_wp2_with fail
      refine (bounds_3 _).mono ?_
      rintro _ w2 ⟨rfl, hq2⟩
      obtain rfl := hq2.symm
      go_wp2_with fail
      refine (Pk.pright_any c f _ t d _).mono ?_
      rintro _ w3 ⟨rfl, hb⟩
      have HB := Lib.hid ((((Below.refl _ w).alloc (Nat.le_refl _) (.cells (⟨3, sd, n, c, f, 0, t, d⟩ : St).cells 26)).trans (hb.mono (by simp))))
      have hc5 := box8 (x := ⟨3, sd, n, c, f, 0, t, d⟩) hb
      clear hb
      rw [HP.out]
      go_wp2
      go_ret
      exact ⟨by rw [HR.out]; rfl, HB.out⟩
    · have HR := Lib.hid (show decide (rightP (⟨3, sd, n, c, f, s, t, d⟩ : St)) = false from decide_eq_false fun h => hs (hr.1 h).2.2.2.2.2.2.2.2)
      have HP := Lib.hid hp
      have hs2 : (s == 0) = false := by simpa using hs
      clear hr hp hs
      go_enter Tryz.func10, Tryz.ntmps10
      go_wp2_with fail
      refine (parts_3 _).mono ?_
      rintro _ w1 ⟨rfl, hq1⟩
      obtain rfl := hq1.symm
      go_wp2_with fail
      refine (bounds_3 _).mono ?_
      rintro _ w2 ⟨rfl, hq2⟩
      obtain rfl := hq2.symm
      go_wp2_with fail
      refine (Pk.pright_any c f _ t d _).mono ?_
      rintro _ w3 ⟨rfl, hb⟩
      have HB := Lib.hid ((((Below.refl _ w).alloc (Nat.le_refl _) (.cells (⟨3, sd, n, c, f, s, t, d⟩ : St).cells 26)).trans (hb.mono (by simp))))
      have hc5 := box8 (x := ⟨3, sd, n, c, f, s, t, d⟩) hb
      clear hb
      rw [HP.out]
      go_wp2
      go_ret
      exact ⟨by rw [HR.out]; rfl, HB.out⟩
  · have hp : Pk.pright c f d = false := by simpa using hp
    have HR := Lib.hid (show decide (rightP (⟨3, sd, n, c, f, s, t, d⟩ : St)) = false from decide_eq_false fun h => by
      have h2 := (hr.1 h).2.2.2.2
      rw [show Pk.pright c f d = true from decide_eq_true ⟨h2.1, h2.2.1, h2.2.2.1, h2.2.2.2.1⟩] at hp
      cases hp)
    have HP := Lib.hid hp
    clear hr hp
    go_enter Tryz.func10, Tryz.ntmps10
    go_wp2_with fail
    refine (parts_3 _).mono ?_
    rintro _ w1 ⟨rfl, hq1⟩
    obtain rfl := hq1.symm
    go_wp2_with fail
    refine (bounds_3 _).mono ?_
    rintro _ w2 ⟨rfl, hq2⟩
    obtain rfl := hq2.symm
    go_wp2_with fail
    refine (Pk.pright_any c f _ t d _).mono ?_
    rintro _ w3 ⟨rfl, hb⟩
    have HB := Lib.hid ((((Below.refl _ w).alloc (Nat.le_refl _) (.cells (⟨3, sd, n, c, f, s, t, d⟩ : St).cells 26)).trans (hb.mono (by simp))))
    have hc5 := box8 (x := ⟨3, sd, n, c, f, s, t, d⟩) hb
    clear hb
    rw [HP.out]
    go_wp2
    go_ret
    exact ⟨by rw [HR.out]; rfl, HB.out⟩

theorem rightP_4 (sd n c f s t : Int) (d : ByteArray) : rightP ⟨4, sd, n, c, f, s, t, d⟩ ↔ (0 ≤ sd ∧ sd ≤ 1 ∧ 0 ≤ n ∧ n ≤ 0 ∧ noP (⟨4, sd, n, c, f, s, t, d⟩ : St)) := by
  unfold rightP
  constructor
  · rintro (h | h | h | h | h | h | h | h)
    all_goals dsimp only at h
    all_goals first | (exfalso; have := h.1; omega) | skip
    all_goals (refine ⟨by omega, by omega, by omega, by omega, ?_⟩; first | exact h.2.2.2 | exact h.2.2.2.2)
  · rintro ⟨h1, h2, h3, h4, h5⟩
    dsimp only
    exact .inr (.inr (.inr (.inl ⟨rfl, by omega, by omega, h5⟩)))

set_option maxHeartbeats 1000000 in
theorem right_4 (sd n c f s t : Int) (d : ByteArray) (w : World) : Calls Tryz.prog 10 #[.agg #[.int .i64 4, .int .i64 sd, .int .i64 n, .int .i64 c, .int .i64 f, .int .u64 s, .int .u64 t, .string d]] w fun e w' => e = .returned (.bool (decide (rightP ⟨4, sd, n, c, f, s, t, d⟩))) ∧ Below w.heap.size w w' := by
  have hr := rightP_4 sd n c f s t d
  by_cases a1 : sd < 0
  · have HR := Lib.hid (show decide (rightP (⟨4, sd, n, c, f, s, t, d⟩ : St)) = false from decide_eq_false fun h => by have := hr.1 h; omega)
    clear hr
    go_enter Tryz.func10, Tryz.ntmps10
    go_wp2_with fail
    refine (parts_4 _).mono ?_
    rintro _ w1 ⟨rfl, hq1⟩
    obtain rfl := hq1.symm
    go_wp2_with fail
    refine (bounds_4 _).mono ?_
    rintro _ w2 ⟨rfl, hq2⟩
    obtain rfl := hq2.symm
    go_wp2_with fail
    go_ret
    exact ⟨by rw [HR.out]; rfl, (Below.refl _ _).alloc (Nat.le_refl _) _⟩
  have b1 : ¬ sd < 0 := a1
  by_cases a2 : 1 < sd
  · have HR := Lib.hid (show decide (rightP (⟨4, sd, n, c, f, s, t, d⟩ : St)) = false from decide_eq_false fun h => by have := hr.1 h; omega)
    clear hr
    go_enter Tryz.func10, Tryz.ntmps10
    go_wp2_with fail
    refine (parts_4 _).mono ?_
    rintro _ w1 ⟨rfl, hq1⟩
    obtain rfl := hq1.symm
    go_wp2_with fail
    refine (bounds_4 _).mono ?_
    rintro _ w2 ⟨rfl, hq2⟩
    obtain rfl := hq2.symm
    go_wp2_with fail
    go_ret
    exact ⟨by rw [HR.out]; rfl, (Below.refl _ _).alloc (Nat.le_refl _) _⟩
  have b2 : ¬ 1 < sd := a2
  by_cases a3 : n < 0
  · have HR := Lib.hid (show decide (rightP (⟨4, sd, n, c, f, s, t, d⟩ : St)) = false from decide_eq_false fun h => by have := hr.1 h; omega)
    clear hr
    go_enter Tryz.func10, Tryz.ntmps10
    go_wp2_with fail
    refine (parts_4 _).mono ?_
    rintro _ w1 ⟨rfl, hq1⟩
    obtain rfl := hq1.symm
    go_wp2_with fail
    refine (bounds_4 _).mono ?_
    rintro _ w2 ⟨rfl, hq2⟩
    obtain rfl := hq2.symm
    go_wp2_with fail
    go_ret
    exact ⟨by rw [HR.out]; rfl, (Below.refl _ _).alloc (Nat.le_refl _) _⟩
  have b3 : ¬ n < 0 := a3
  by_cases a4 : 0 < n
  · have HR := Lib.hid (show decide (rightP (⟨4, sd, n, c, f, s, t, d⟩ : St)) = false from decide_eq_false fun h => by have := hr.1 h; omega)
    clear hr
    go_enter Tryz.func10, Tryz.ntmps10
    go_wp2_with fail
    refine (parts_4 _).mono ?_
    rintro _ w1 ⟨rfl, hq1⟩
    obtain rfl := hq1.symm
    go_wp2_with fail
    refine (bounds_4 _).mono ?_
    rintro _ w2 ⟨rfl, hq2⟩
    obtain rfl := hq2.symm
    go_wp2_with fail
    go_ret
    exact ⟨by rw [HR.out]; rfl, (Below.refl _ _).alloc (Nat.le_refl _) _⟩
  have b4 : ¬ 0 < n := a4
  have HR := Lib.hid (show decide (rightP (⟨4, sd, n, c, f, s, t, d⟩ : St)) = decide (noP (⟨4, sd, n, c, f, s, t, d⟩ : St)) from decide_eq_decide.2 ⟨fun h => (hr.1 h).2.2.2.2, fun h => hr.2 ⟨by omega, by omega, by omega, by omega, h⟩⟩)
  clear hr
  have heq := eq_no (⟨4, sd, n, c, f, s, t, d⟩ : St)
  go_enter Tryz.func10, Tryz.ntmps10
  go_wp2_with fail
  refine (parts_4 _).mono ?_
  rintro _ w1 ⟨rfl, hq1⟩
  obtain rfl := hq1.symm
  go_wp2_with fail
  refine (bounds_4 _).mono ?_
  rintro _ w2 ⟨rfl, hq2⟩
  obtain rfl := hq2.symm
  go_wp2_with fail
  go_ret
  exact ⟨by rw [HR.out]; rfl, (Below.refl _ _).alloc (Nat.le_refl _) _⟩

theorem rightP_5 (sd n c f s t : Int) (d : ByteArray) : rightP ⟨5, sd, n, c, f, s, t, d⟩ ↔ (0 ≤ sd ∧ sd ≤ 0 ∧ 0 ≤ n ∧ n ≤ 7 ∧ noP (⟨5, sd, n, c, f, s, t, d⟩ : St)) := by
  unfold rightP
  constructor
  · rintro (h | h | h | h | h | h | h | h)
    all_goals dsimp only at h
    all_goals first | (exfalso; have := h.1; omega) | skip
    all_goals (refine ⟨by omega, by omega, by omega, by omega, ?_⟩; first | exact h.2.2.2 | exact h.2.2.2.2)
  · rintro ⟨h1, h2, h3, h4, h5⟩
    dsimp only
    exact .inr (.inr (.inr (.inr (.inl ⟨rfl, by omega, h3, h4, h5⟩))))

set_option maxHeartbeats 1000000 in
theorem right_5 (sd n c f s t : Int) (d : ByteArray) (w : World) : Calls Tryz.prog 10 #[.agg #[.int .i64 5, .int .i64 sd, .int .i64 n, .int .i64 c, .int .i64 f, .int .u64 s, .int .u64 t, .string d]] w fun e w' => e = .returned (.bool (decide (rightP ⟨5, sd, n, c, f, s, t, d⟩))) ∧ Below w.heap.size w w' := by
  have hr := rightP_5 sd n c f s t d
  by_cases a1 : sd < 0
  · have HR := Lib.hid (show decide (rightP (⟨5, sd, n, c, f, s, t, d⟩ : St)) = false from decide_eq_false fun h => by have := hr.1 h; omega)
    clear hr
    go_enter Tryz.func10, Tryz.ntmps10
    go_wp2_with fail
    refine (parts_5 _).mono ?_
    rintro _ w1 ⟨rfl, hq1⟩
    obtain rfl := hq1.symm
    go_wp2_with fail
    refine (bounds_5 _).mono ?_
    rintro _ w2 ⟨rfl, hq2⟩
    obtain rfl := hq2.symm
    go_wp2_with fail
    go_ret
    exact ⟨by rw [HR.out]; rfl, (Below.refl _ _).alloc (Nat.le_refl _) _⟩
  have b1 : ¬ sd < 0 := a1
  by_cases a2 : 0 < sd
  · have HR := Lib.hid (show decide (rightP (⟨5, sd, n, c, f, s, t, d⟩ : St)) = false from decide_eq_false fun h => by have := hr.1 h; omega)
    clear hr
    go_enter Tryz.func10, Tryz.ntmps10
    go_wp2_with fail
    refine (parts_5 _).mono ?_
    rintro _ w1 ⟨rfl, hq1⟩
    obtain rfl := hq1.symm
    go_wp2_with fail
    refine (bounds_5 _).mono ?_
    rintro _ w2 ⟨rfl, hq2⟩
    obtain rfl := hq2.symm
    go_wp2_with fail
    go_ret
    exact ⟨by rw [HR.out]; rfl, (Below.refl _ _).alloc (Nat.le_refl _) _⟩
  have b2 : ¬ 0 < sd := a2
  by_cases a3 : n < 0
  · have HR := Lib.hid (show decide (rightP (⟨5, sd, n, c, f, s, t, d⟩ : St)) = false from decide_eq_false fun h => by have := hr.1 h; omega)
    clear hr
    go_enter Tryz.func10, Tryz.ntmps10
    go_wp2_with fail
    refine (parts_5 _).mono ?_
    rintro _ w1 ⟨rfl, hq1⟩
    obtain rfl := hq1.symm
    go_wp2_with fail
    refine (bounds_5 _).mono ?_
    rintro _ w2 ⟨rfl, hq2⟩
    obtain rfl := hq2.symm
    go_wp2_with fail
    go_ret
    exact ⟨by rw [HR.out]; rfl, (Below.refl _ _).alloc (Nat.le_refl _) _⟩
  have b3 : ¬ n < 0 := a3
  by_cases a4 : 7 < n
  · have HR := Lib.hid (show decide (rightP (⟨5, sd, n, c, f, s, t, d⟩ : St)) = false from decide_eq_false fun h => by have := hr.1 h; omega)
    clear hr
    go_enter Tryz.func10, Tryz.ntmps10
    go_wp2_with fail
    refine (parts_5 _).mono ?_
    rintro _ w1 ⟨rfl, hq1⟩
    obtain rfl := hq1.symm
    go_wp2_with fail
    refine (bounds_5 _).mono ?_
    rintro _ w2 ⟨rfl, hq2⟩
    obtain rfl := hq2.symm
    go_wp2_with fail
    go_ret
    exact ⟨by rw [HR.out]; rfl, (Below.refl _ _).alloc (Nat.le_refl _) _⟩
  have b4 : ¬ 7 < n := a4
  have HR := Lib.hid (show decide (rightP (⟨5, sd, n, c, f, s, t, d⟩ : St)) = decide (noP (⟨5, sd, n, c, f, s, t, d⟩ : St)) from decide_eq_decide.2 ⟨fun h => (hr.1 h).2.2.2.2, fun h => hr.2 ⟨by omega, by omega, by omega, by omega, h⟩⟩)
  clear hr
  have heq := eq_no (⟨5, sd, n, c, f, s, t, d⟩ : St)
  go_enter Tryz.func10, Tryz.ntmps10
  go_wp2_with fail
  refine (parts_5 _).mono ?_
  rintro _ w1 ⟨rfl, hq1⟩
  obtain rfl := hq1.symm
  go_wp2_with fail
  refine (bounds_5 _).mono ?_
  rintro _ w2 ⟨rfl, hq2⟩
  obtain rfl := hq2.symm
  go_wp2_with fail
  go_ret
  exact ⟨by rw [HR.out]; rfl, (Below.refl _ _).alloc (Nat.le_refl _) _⟩

theorem rightP_6 (sd n c f s t : Int) (d : ByteArray) : rightP ⟨6, sd, n, c, f, s, t, d⟩ ↔ (0 ≤ sd ∧ sd ≤ 1 ∧ 1 ≤ n ∧ n ≤ 4 ∧ noP (⟨6, sd, n, c, f, s, t, d⟩ : St)) := by
  unfold rightP
  constructor
  · rintro (h | h | h | h | h | h | h | h)
    all_goals dsimp only at h
    all_goals first | (exfalso; have := h.1; omega) | skip
    all_goals (refine ⟨by omega, by omega, by omega, by omega, ?_⟩; first | exact h.2.2.2 | exact h.2.2.2.2)
  · rintro ⟨h1, h2, h3, h4, h5⟩
    dsimp only
    exact .inr (.inr (.inr (.inr (.inr (.inl ⟨rfl, by omega, h3, h4, h5⟩)))))

set_option maxHeartbeats 1000000 in
theorem right_6 (sd n c f s t : Int) (d : ByteArray) (w : World) : Calls Tryz.prog 10 #[.agg #[.int .i64 6, .int .i64 sd, .int .i64 n, .int .i64 c, .int .i64 f, .int .u64 s, .int .u64 t, .string d]] w fun e w' => e = .returned (.bool (decide (rightP ⟨6, sd, n, c, f, s, t, d⟩))) ∧ Below w.heap.size w w' := by
  have hr := rightP_6 sd n c f s t d
  by_cases a1 : sd < 0
  · have HR := Lib.hid (show decide (rightP (⟨6, sd, n, c, f, s, t, d⟩ : St)) = false from decide_eq_false fun h => by have := hr.1 h; omega)
    clear hr
    go_enter Tryz.func10, Tryz.ntmps10
    go_wp2_with fail
    refine (parts_6 _).mono ?_
    rintro _ w1 ⟨rfl, hq1⟩
    obtain rfl := hq1.symm
    go_wp2_with fail
    refine (bounds_6 _).mono ?_
    rintro _ w2 ⟨rfl, hq2⟩
    obtain rfl := hq2.symm
    go_wp2_with fail
    go_ret
    exact ⟨by rw [HR.out]; rfl, (Below.refl _ _).alloc (Nat.le_refl _) _⟩
  have b1 : ¬ sd < 0 := a1
  by_cases a2 : 1 < sd
  · have HR := Lib.hid (show decide (rightP (⟨6, sd, n, c, f, s, t, d⟩ : St)) = false from decide_eq_false fun h => by have := hr.1 h; omega)
    clear hr
    go_enter Tryz.func10, Tryz.ntmps10
    go_wp2_with fail
    refine (parts_6 _).mono ?_
    rintro _ w1 ⟨rfl, hq1⟩
    obtain rfl := hq1.symm
    go_wp2_with fail
    refine (bounds_6 _).mono ?_
    rintro _ w2 ⟨rfl, hq2⟩
    obtain rfl := hq2.symm
    go_wp2_with fail
    go_ret
    exact ⟨by rw [HR.out]; rfl, (Below.refl _ _).alloc (Nat.le_refl _) _⟩
  have b2 : ¬ 1 < sd := a2
  by_cases a3 : n < 1
  · have HR := Lib.hid (show decide (rightP (⟨6, sd, n, c, f, s, t, d⟩ : St)) = false from decide_eq_false fun h => by have := hr.1 h; omega)
    clear hr
    go_enter Tryz.func10, Tryz.ntmps10
    go_wp2_with fail
    refine (parts_6 _).mono ?_
    rintro _ w1 ⟨rfl, hq1⟩
    obtain rfl := hq1.symm
    go_wp2_with fail
    refine (bounds_6 _).mono ?_
    rintro _ w2 ⟨rfl, hq2⟩
    obtain rfl := hq2.symm
    go_wp2_with fail
    go_ret
    exact ⟨by rw [HR.out]; rfl, (Below.refl _ _).alloc (Nat.le_refl _) _⟩
  have b3 : ¬ n < 1 := a3
  by_cases a4 : 4 < n
  · have HR := Lib.hid (show decide (rightP (⟨6, sd, n, c, f, s, t, d⟩ : St)) = false from decide_eq_false fun h => by have := hr.1 h; omega)
    clear hr
    go_enter Tryz.func10, Tryz.ntmps10
    go_wp2_with fail
    refine (parts_6 _).mono ?_
    rintro _ w1 ⟨rfl, hq1⟩
    obtain rfl := hq1.symm
    go_wp2_with fail
    refine (bounds_6 _).mono ?_
    rintro _ w2 ⟨rfl, hq2⟩
    obtain rfl := hq2.symm
    go_wp2_with fail
    go_ret
    exact ⟨by rw [HR.out]; rfl, (Below.refl _ _).alloc (Nat.le_refl _) _⟩
  have b4 : ¬ 4 < n := a4
  have HR := Lib.hid (show decide (rightP (⟨6, sd, n, c, f, s, t, d⟩ : St)) = decide (noP (⟨6, sd, n, c, f, s, t, d⟩ : St)) from decide_eq_decide.2 ⟨fun h => (hr.1 h).2.2.2.2, fun h => hr.2 ⟨by omega, by omega, by omega, by omega, h⟩⟩)
  clear hr
  have heq := eq_no (⟨6, sd, n, c, f, s, t, d⟩ : St)
  go_enter Tryz.func10, Tryz.ntmps10
  go_wp2_with fail
  refine (parts_6 _).mono ?_
  rintro _ w1 ⟨rfl, hq1⟩
  obtain rfl := hq1.symm
  go_wp2_with fail
  refine (bounds_6 _).mono ?_
  rintro _ w2 ⟨rfl, hq2⟩
  obtain rfl := hq2.symm
  go_wp2_with fail
  go_ret
  exact ⟨by rw [HR.out]; rfl, (Below.refl _ _).alloc (Nat.le_refl _) _⟩

theorem rightP_7 (sd n c f s t : Int) (d : ByteArray) : rightP ⟨7, sd, n, c, f, s, t, d⟩ ↔ (0 ≤ sd ∧ sd ≤ 0 ∧ 0 ≤ n ∧ n ≤ 0 ∧ noP (⟨7, sd, n, c, f, s, t, d⟩ : St)) := by
  unfold rightP
  constructor
  · rintro (h | h | h | h | h | h | h | h)
    all_goals dsimp only at h
    all_goals first | (exfalso; have := h.1; omega) | skip
    all_goals (refine ⟨by omega, by omega, by omega, by omega, ?_⟩; first | exact h.2.2.2 | exact h.2.2.2.2)
  · rintro ⟨h1, h2, h3, h4, h5⟩
    dsimp only
    exact .inr (.inr (.inr (.inr (.inr (.inr (.inl ⟨rfl, by omega, by omega, h5⟩))))))

set_option maxHeartbeats 1000000 in
theorem right_7 (sd n c f s t : Int) (d : ByteArray) (w : World) : Calls Tryz.prog 10 #[.agg #[.int .i64 7, .int .i64 sd, .int .i64 n, .int .i64 c, .int .i64 f, .int .u64 s, .int .u64 t, .string d]] w fun e w' => e = .returned (.bool (decide (rightP ⟨7, sd, n, c, f, s, t, d⟩))) ∧ Below w.heap.size w w' := by
  have hr := rightP_7 sd n c f s t d
  by_cases a1 : sd < 0
  · have HR := Lib.hid (show decide (rightP (⟨7, sd, n, c, f, s, t, d⟩ : St)) = false from decide_eq_false fun h => by have := hr.1 h; omega)
    clear hr
    go_enter Tryz.func10, Tryz.ntmps10
    go_wp2_with fail
    refine (parts_7 _).mono ?_
    rintro _ w1 ⟨rfl, hq1⟩
    obtain rfl := hq1.symm
    go_wp2_with fail
    refine (bounds_7 _).mono ?_
    rintro _ w2 ⟨rfl, hq2⟩
    obtain rfl := hq2.symm
    go_wp2_with fail
    go_ret
    exact ⟨by rw [HR.out]; rfl, (Below.refl _ _).alloc (Nat.le_refl _) _⟩
  have b1 : ¬ sd < 0 := a1
  by_cases a2 : 0 < sd
  · have HR := Lib.hid (show decide (rightP (⟨7, sd, n, c, f, s, t, d⟩ : St)) = false from decide_eq_false fun h => by have := hr.1 h; omega)
    clear hr
    go_enter Tryz.func10, Tryz.ntmps10
    go_wp2_with fail
    refine (parts_7 _).mono ?_
    rintro _ w1 ⟨rfl, hq1⟩
    obtain rfl := hq1.symm
    go_wp2_with fail
    refine (bounds_7 _).mono ?_
    rintro _ w2 ⟨rfl, hq2⟩
    obtain rfl := hq2.symm
    go_wp2_with fail
    go_ret
    exact ⟨by rw [HR.out]; rfl, (Below.refl _ _).alloc (Nat.le_refl _) _⟩
  have b2 : ¬ 0 < sd := a2
  by_cases a3 : n < 0
  · have HR := Lib.hid (show decide (rightP (⟨7, sd, n, c, f, s, t, d⟩ : St)) = false from decide_eq_false fun h => by have := hr.1 h; omega)
    clear hr
    go_enter Tryz.func10, Tryz.ntmps10
    go_wp2_with fail
    refine (parts_7 _).mono ?_
    rintro _ w1 ⟨rfl, hq1⟩
    obtain rfl := hq1.symm
    go_wp2_with fail
    refine (bounds_7 _).mono ?_
    rintro _ w2 ⟨rfl, hq2⟩
    obtain rfl := hq2.symm
    go_wp2_with fail
    go_ret
    exact ⟨by rw [HR.out]; rfl, (Below.refl _ _).alloc (Nat.le_refl _) _⟩
  have b3 : ¬ n < 0 := a3
  by_cases a4 : 0 < n
  · have HR := Lib.hid (show decide (rightP (⟨7, sd, n, c, f, s, t, d⟩ : St)) = false from decide_eq_false fun h => by have := hr.1 h; omega)
    clear hr
    go_enter Tryz.func10, Tryz.ntmps10
    go_wp2_with fail
    refine (parts_7 _).mono ?_
    rintro _ w1 ⟨rfl, hq1⟩
    obtain rfl := hq1.symm
    go_wp2_with fail
    refine (bounds_7 _).mono ?_
    rintro _ w2 ⟨rfl, hq2⟩
    obtain rfl := hq2.symm
    go_wp2_with fail
    go_ret
    exact ⟨by rw [HR.out]; rfl, (Below.refl _ _).alloc (Nat.le_refl _) _⟩
  have b4 : ¬ 0 < n := a4
  have HR := Lib.hid (show decide (rightP (⟨7, sd, n, c, f, s, t, d⟩ : St)) = decide (noP (⟨7, sd, n, c, f, s, t, d⟩ : St)) from decide_eq_decide.2 ⟨fun h => (hr.1 h).2.2.2.2, fun h => hr.2 ⟨by omega, by omega, by omega, by omega, h⟩⟩)
  clear hr
  have heq := eq_no (⟨7, sd, n, c, f, s, t, d⟩ : St)
  go_enter Tryz.func10, Tryz.ntmps10
  go_wp2_with fail
  refine (parts_7 _).mono ?_
  rintro _ w1 ⟨rfl, hq1⟩
  obtain rfl := hq1.symm
  go_wp2_with fail
  refine (bounds_7 _).mono ?_
  rintro _ w2 ⟨rfl, hq2⟩
  obtain rfl := hq2.symm
  go_wp2_with fail
  go_ret
  exact ⟨by rw [HR.out]; rfl, (Below.refl _ _).alloc (Nat.le_refl _) _⟩

theorem rightP_8 (sd n c f s t : Int) (d : ByteArray) : rightP ⟨8, sd, n, c, f, s, t, d⟩ ↔ (0 ≤ sd ∧ sd ≤ 0 ∧ 0 ≤ n ∧ n ≤ 0 ∧ noP (⟨8, sd, n, c, f, s, t, d⟩ : St)) := by
  unfold rightP
  constructor
  · rintro (h | h | h | h | h | h | h | h)
    all_goals dsimp only at h
    all_goals first | (exfalso; have := h.1; omega) | skip
    all_goals (refine ⟨by omega, by omega, by omega, by omega, ?_⟩; first | exact h.2.2.2 | exact h.2.2.2.2)
  · rintro ⟨h1, h2, h3, h4, h5⟩
    dsimp only
    exact .inr (.inr (.inr (.inr (.inr (.inr (.inr (⟨rfl, by omega, by omega, h5⟩)))))))

set_option maxHeartbeats 1000000 in
theorem right_8 (sd n c f s t : Int) (d : ByteArray) (w : World) : Calls Tryz.prog 10 #[.agg #[.int .i64 8, .int .i64 sd, .int .i64 n, .int .i64 c, .int .i64 f, .int .u64 s, .int .u64 t, .string d]] w fun e w' => e = .returned (.bool (decide (rightP ⟨8, sd, n, c, f, s, t, d⟩))) ∧ Below w.heap.size w w' := by
  have hr := rightP_8 sd n c f s t d
  by_cases a1 : sd < 0
  · have HR := Lib.hid (show decide (rightP (⟨8, sd, n, c, f, s, t, d⟩ : St)) = false from decide_eq_false fun h => by have := hr.1 h; omega)
    clear hr
    go_enter Tryz.func10, Tryz.ntmps10
    go_wp2_with fail
    refine (parts_8 _).mono ?_
    rintro _ w1 ⟨rfl, hq1⟩
    obtain rfl := hq1.symm
    go_wp2_with fail
    refine (bounds_8 _).mono ?_
    rintro _ w2 ⟨rfl, hq2⟩
    obtain rfl := hq2.symm
    go_wp2_with fail
    go_ret
    exact ⟨by rw [HR.out]; rfl, (Below.refl _ _).alloc (Nat.le_refl _) _⟩
  have b1 : ¬ sd < 0 := a1
  by_cases a2 : 0 < sd
  · have HR := Lib.hid (show decide (rightP (⟨8, sd, n, c, f, s, t, d⟩ : St)) = false from decide_eq_false fun h => by have := hr.1 h; omega)
    clear hr
    go_enter Tryz.func10, Tryz.ntmps10
    go_wp2_with fail
    refine (parts_8 _).mono ?_
    rintro _ w1 ⟨rfl, hq1⟩
    obtain rfl := hq1.symm
    go_wp2_with fail
    refine (bounds_8 _).mono ?_
    rintro _ w2 ⟨rfl, hq2⟩
    obtain rfl := hq2.symm
    go_wp2_with fail
    go_ret
    exact ⟨by rw [HR.out]; rfl, (Below.refl _ _).alloc (Nat.le_refl _) _⟩
  have b2 : ¬ 0 < sd := a2
  by_cases a3 : n < 0
  · have HR := Lib.hid (show decide (rightP (⟨8, sd, n, c, f, s, t, d⟩ : St)) = false from decide_eq_false fun h => by have := hr.1 h; omega)
    clear hr
    go_enter Tryz.func10, Tryz.ntmps10
    go_wp2_with fail
    refine (parts_8 _).mono ?_
    rintro _ w1 ⟨rfl, hq1⟩
    obtain rfl := hq1.symm
    go_wp2_with fail
    refine (bounds_8 _).mono ?_
    rintro _ w2 ⟨rfl, hq2⟩
    obtain rfl := hq2.symm
    go_wp2_with fail
    go_ret
    exact ⟨by rw [HR.out]; rfl, (Below.refl _ _).alloc (Nat.le_refl _) _⟩
  have b3 : ¬ n < 0 := a3
  by_cases a4 : 0 < n
  · have HR := Lib.hid (show decide (rightP (⟨8, sd, n, c, f, s, t, d⟩ : St)) = false from decide_eq_false fun h => by have := hr.1 h; omega)
    clear hr
    go_enter Tryz.func10, Tryz.ntmps10
    go_wp2_with fail
    refine (parts_8 _).mono ?_
    rintro _ w1 ⟨rfl, hq1⟩
    obtain rfl := hq1.symm
    go_wp2_with fail
    refine (bounds_8 _).mono ?_
    rintro _ w2 ⟨rfl, hq2⟩
    obtain rfl := hq2.symm
    go_wp2_with fail
    go_ret
    exact ⟨by rw [HR.out]; rfl, (Below.refl _ _).alloc (Nat.le_refl _) _⟩
  have b4 : ¬ 0 < n := a4
  have HR := Lib.hid (show decide (rightP (⟨8, sd, n, c, f, s, t, d⟩ : St)) = decide (noP (⟨8, sd, n, c, f, s, t, d⟩ : St)) from decide_eq_decide.2 ⟨fun h => (hr.1 h).2.2.2.2, fun h => hr.2 ⟨by omega, by omega, by omega, by omega, h⟩⟩)
  clear hr
  have heq := eq_no (⟨8, sd, n, c, f, s, t, d⟩ : St)
  go_enter Tryz.func10, Tryz.ntmps10
  go_wp2_with fail
  refine (parts_8 _).mono ?_
  rintro _ w1 ⟨rfl, hq1⟩
  obtain rfl := hq1.symm
  go_wp2_with fail
  refine (bounds_8 _).mono ?_
  rintro _ w2 ⟨rfl, hq2⟩
  obtain rfl := hq2.symm
  go_wp2_with fail
  go_ret
  exact ⟨by rw [HR.out]; rfl, (Below.refl _ _).alloc (Nat.le_refl _) _⟩

theorem right_o (k sd n c f s t : Int) (d : ByteArray) (h1 : k ≠ 1) (h2 : k ≠ 2) (h3 : k ≠ 3) (h4 : k ≠ 4) (h5 : k ≠ 5) (h6 : k ≠ 6) (h7 : k ≠ 7) (h8 : k ≠ 8) (w : World) : Calls Tryz.prog 10 #[.agg #[.int .i64 k, .int .i64 sd, .int .i64 n, .int .i64 c, .int .i64 f, .int .u64 s, .int .u64 t, .string d]] w fun e w' => e = .returned (.bool (decide (rightP ⟨k, sd, n, c, f, s, t, d⟩))) ∧ Below w.heap.size w w' := by
  have HR := Lib.hid (show decide (rightP ⟨k, sd, n, c, f, s, t, d⟩) = false from decide_eq_false fun h => by
    rcases h with h | h | h | h | h | h | h | h <;> (have := h.1; dsimp only at this; omega))
  have HP := Lib.hid (fun W => parts_o k h1 h2 h3 h4 h5 h6 h7 h8 W)
  have HB := Lib.hid (fun W => bounds_o k h1 h2 h3 h4 h5 h6 h7 h8 W)
  clear h1 h2 h3 h4 h5 h6 h7 h8
  go_enter Tryz.func10, Tryz.ntmps10
  go_wp2_with fail
  refine (HP.out _).mono ?_
  rintro _ w1 ⟨rfl, hq1⟩
  obtain rfl := hq1.symm
  go_wp2_with fail
  refine (HB.out _).mono ?_
  rintro _ w2 ⟨rfl, hq2⟩
  obtain rfl := hq2.symm
  go_wp2_with fail
  go_ret
  exact ⟨by rw [HR.out]; rfl, (Below.refl _ _).alloc (Nat.le_refl _) _⟩
theorem right_any (x : St) (w : World) : Calls Tryz.prog 10 #[.agg x.cells] w fun e w' => e = .returned (.bool (decide (rightP x))) ∧ Below w.heap.size w w' := by
  obtain ⟨k, sd, n, c, f, s, t, d⟩ := x
  show Calls Tryz.prog _ #[.agg #[.int .i64 k, .int .i64 sd, .int .i64 n, .int .i64 c, .int .i64 f, .int .u64 s, .int .u64 t, .string d]] w _
  rcases Decidable.em (k = 1) with rfl | h1
  · exact right_1 sd n c f s t d w
  rcases Decidable.em (k = 2) with rfl | h2
  · exact right_2 sd n c f s t d w
  rcases Decidable.em (k = 3) with rfl | h3
  · exact right_3 sd n c f s t d w
  rcases Decidable.em (k = 4) with rfl | h4
  · exact right_4 sd n c f s t d w
  rcases Decidable.em (k = 5) with rfl | h5
  · exact right_5 sd n c f s t d w
  rcases Decidable.em (k = 6) with rfl | h6
  · exact right_6 sd n c f s t d w
  rcases Decidable.em (k = 7) with rfl | h7
  · exact right_7 sd n c f s t d w
  rcases Decidable.em (k = 8) with rfl | h8
  · exact right_8 sd n c f s t d w
  exact right_o k sd n c f s t d h1 h2 h3 h4 h5 h6 h7 h8 w

end Go.Proofs.YtnjcenbmdcogpaaGreatDoor.Sp
