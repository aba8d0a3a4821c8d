/- order2, median, medianAdjacent, choosePivot, iface -/
import Derived.Test.YtpkkomifenlkaaaStBase
import Derived.Shelf.GgSortMore.Iface
import Derived.Deep.LoopGhost
import Derived.WalkKit
import Derived.BigCall
import Derived.BigGuard
import Derived.Shelf.GgSortFunc.LotD
import Derived.Sort.LotD4
import Derived.Sort.LotD1
import Derived.Sort.Walk11
namespace Go.Proofs.Ytpkkomifenlkaaa.St
open Go Go.RowKit Go.Shelf Go.Lib Go.Sort Go.Proofs
variable {P : Program} {ρ : Ren} {α : Type} [Inhabited α]

set_option maxHeartbeats 1000000 in
set_option maxRecDepth 1000000 in
theorem ord_any (L : LaysGt.n50 P ρ) (lt : α → α → Bool) (B size : Nat) (T : Array α → World → Prop) (ty : TypeId) (rv : Value) (gl gs : Nat) (F : IfaceFam P lt B size T ty rv gl gs) (a b x s : Nat) (ha : a < size) (hb : b < size) (hs : s < 4611686018427387904) (d : Array α) (w : World) (hC : Ct B T x d s w) :
    Calls P (ρ.f 50) #[.iface ty rv, .int .i64 a, .int .i64 b, .pointer (some ⟨x, 0, none⟩)] w fun e w' => e = .returned (.tuple #[.int .i64 (order2 lt d a b s).1, .int .i64 (order2 lt d a b s).2.1]) ∧ Ct B T x d ((order2 lt d a b s).2.2) w' ∧ UpC B x w w' := by
  have mixed := L.mixed; have t0 := L.t0; have a0 := L.a0; have z0 := L.z0; have v0 := L.v0; have t3 := L.t3; have a3 := L.a3; have z3 := L.z3
  have v3 := L.v3; have t4 := L.t4; have a4 := L.a4; have z4 := L.z4; have v4 := L.v4; have t26 := L.t26; have a26 := L.a26; have z26 := L.z26
  have v26 := L.v26; have t38 := L.t38; have a38 := L.a38; have z38 := L.z38; have v38 := L.v38; have t43 := L.t43; have a43 := L.a43; have z43 := L.z43
  have v43 := L.v43; have t45 := L.t45; have a45 := L.a45; have z45 := L.z45; have v45 := L.v45; have t71 := L.t71; have a71 := L.a71; have z71 := L.z71
  have v71 := L.v71
  have mL := F.mL; have eL := F.eL
  have H0 := CtI.start hC
  cases hlv : lt d[b]! d[a]! with
  | true =>
    have hl := H0.less F b a true hb ha hlv
    have e2 : order2 lt d a b s = (b, a, s + 1) := by simp [order2, hlv]
    rw [e2]
    go_enter L.f50, BodyGt.n50_ntmps ρ
    go_wp2_with (go_at_fn gl; refine hl.mono ?_; rintro e w1 ⟨rfl, H1⟩; have cs := H1.ct.at_; have fs := H1.ct.f)
    go_ret2
    have h2 := H1.ct.count F.play (s + 1)
    have h3 := H1.up.set 0 (.int .i64 ((s + 1 : Nat) : Int))
    rw [show ((s + 1 : Nat) : Int) = (s : Int) + 1 by omega] at h2 h3
    exact ⟨rfl, h2, h3⟩
  | false =>
    have hl := H0.less F b a false hb ha hlv
    have e2 : order2 lt d a b s = (a, b, s) := by simp [order2, hlv]
    rw [e2]
    go_enter L.f50, BodyGt.n50_ntmps ρ
    go_wp2_with (go_at_fn gl; refine hl.mono ?_; rintro e w1 ⟨rfl, H1⟩; have cs := H1.ct.at_; have fs := H1.ct.f)
    go_ret2
    exact ⟨rfl, H1.ct, H1.up⟩

set_option maxHeartbeats 1000000 in
set_option maxRecDepth 1000000 in
theorem med_any (L : LaysGt.n47 P ρ) (lt : α → α → Bool) (B size : Nat) (T : Array α → World → Prop) (ty : TypeId) (rv : Value) (gl gs : Nat) (F : IfaceFam P lt B size T ty rv gl gs) (a b c x s : Nat) (ha : a < size) (hb : b < size) (hc : c < size) (hs : s + 3 < 4611686018427387904) (d : Array α) (w : World) (hC : Ct B T x d s w) :
    Calls P (ρ.f 47) #[.iface ty rv, .int .i64 a, .int .i64 b, .int .i64 c, .pointer (some ⟨x, 0, none⟩)] w fun e w' => e = .returned (.int .i64 (median lt d a b c s).1) ∧ Ct B T x d ((median lt d a b c s).2) w' ∧ UpC B x w w' := by
  have mixed := L.mixed; have t0 := L.t0; have a0 := L.a0; have z0 := L.z0; have v0 := L.v0; have t3 := L.t3; have a3 := L.a3; have z3 := L.z3
  have v3 := L.v3; have t4 := L.t4; have a4 := L.a4; have z4 := L.z4; have v4 := L.v4; have t26 := L.t26; have a26 := L.a26; have z26 := L.z26
  have v26 := L.v26; have t38 := L.t38; have a38 := L.a38; have z38 := L.z38; have v38 := L.v38; have t43 := L.t43; have a43 := L.a43; have z43 := L.z43
  have v43 := L.v43; have t45 := L.t45; have a45 := L.a45; have z45 := L.z45; have v45 := L.v45; have t71 := L.t71; have a71 := L.a71; have z71 := L.z71
  have v71 := L.v71; have t74 := L.t74; have a74 := L.a74; have z74 := L.z74; have v74 := L.v74
  have mL := F.mL; have eL := F.eL
  have H0 := CtI.start hC
  have e50 : ∀ args w, (callFunc (ρ.f 50) args).run P w = .ok (.enter (ρ.f 50) args) w := enters_of L.f50 (by kernel_rfl) rfl
  have l1 := order2_lt' lt d s ha hb
  have s1 := order2_swaps' lt d a b s
  have l2 := order2_lt' lt d (order2 lt d a b s).2.2 l1.2 hc
  have s2 := order2_swaps' lt d (order2 lt d a b s).2.1 c (order2 lt d a b s).2.2
  unfold median
  simp only []
  obtain ⟨p1, p2, p3, hp⟩ : ∃ p1 p2 p3, order2 lt d a b s = (p1, p2, p3) := ⟨_, _, _, rfl⟩
  have st1 := ord_any (ρ := ρ) { L with } lt B size T ty rv gl gs F a b x s ha hb (by omega) d _ H0.ct
  rw [hp] at l1 s1 l2 s2 st1 ⊢
  simp only [] at l1 s1 l2 s2 st1 ⊢
  obtain ⟨q1, q2, q3, hq⟩ : ∃ q1 q2 q3, order2 lt d p2 c p3 = (q1, q2, q3) := ⟨_, _, _, rfl⟩
  rw [hq] at l2 s2 ⊢
  simp only [] at l2 s2 ⊢
  obtain ⟨r1, r2, r3, hr⟩ : ∃ r1 r2 r3, order2 lt d p1 q1 q3 = (r1, r2, r3) := ⟨_, _, _, rfl⟩
  rw [hr]
  have HQ : Hid (order2 lt d p2 c p3 = (q1, q2, q3)) := hq
  have HR : Hid (order2 lt d p1 q1 q3 = (r1, r2, r3)) := hr
  clear hp hq hr
  go_enter L.f47, BodyGt.n47_ntmps ρ
  go_wp2_with (first
    | (go_at_fn (ρ.f 50); refine st1.mono ?_; rintro e w1 ⟨rfl, C1, u1⟩; have H1 := H0.call C1 u1; have st2 := ord_any (ρ := ρ) { L with } lt B size T ty rv gl gs F p2 c x p3 l1.2 hc (by omega) d _ H1.ct; rw [HQ.out] at st2; simp only [] at st2)
    | (go_at_fn (ρ.f 50); refine st2.mono ?_; rintro e w2 ⟨rfl, C2, u2⟩; have H2 := H1.call C2 u2; have st3 := ord_any (ρ := ρ) { L with } lt B size T ty rv gl gs F p1 q1 x q3 l1.1 l2.1 (by omega) d _ H2.ct; rw [HR.out] at st3; simp only [] at st3)
    | (go_at_fn (ρ.f 50); refine st3.mono ?_; rintro e w3 ⟨rfl, C3, u3⟩; have H3 := H2.call C3 u3))
  go_ret
  exact ⟨rfl, H3.ct, H3.up⟩

set_option maxHeartbeats 1000000 in
set_option maxRecDepth 1000000 in
theorem mad_any (L : LaysGt.n46 P ρ) (lt : α → α → Bool) (B size : Nat) (T : Array α → World → Prop) (ty : TypeId) (rv : Value) (gl gs : Nat) (F : IfaceFam P lt B size T ty rv gl gs) (a x s : Nat) (ha1 : 1 ≤ a) (ha2 : a + 1 < size) (hs : s + 3 < 4611686018427387904) (d : Array α) (w : World) (hC : Ct B T x d s w) :
    Calls P (ρ.f 46) #[.iface ty rv, .int .i64 a, .pointer (some ⟨x, 0, none⟩)] w fun e w' => e = .returned (.int .i64 (medianAdjacent lt d a s).1) ∧ Ct B T x d ((medianAdjacent lt d a s).2) w' ∧ UpC B x w w' := by
  have mixed := L.mixed; have t0 := L.t0; have a0 := L.a0; have z0 := L.z0; have v0 := L.v0; have t3 := L.t3; have a3 := L.a3; have z3 := L.z3
  have v3 := L.v3; have t4 := L.t4; have a4 := L.a4; have z4 := L.z4; have v4 := L.v4; have t26 := L.t26; have a26 := L.a26; have z26 := L.z26
  have v26 := L.v26; have t38 := L.t38; have a38 := L.a38; have z38 := L.z38; have v38 := L.v38; have t43 := L.t43; have a43 := L.a43; have z43 := L.z43
  have v43 := L.v43; have t45 := L.t45; have a45 := L.a45; have z45 := L.z45; have v45 := L.v45; have t71 := L.t71; have a71 := L.a71; have z71 := L.z71
  have v71 := L.v71; have t74 := L.t74; have a74 := L.a74; have z74 := L.z74; have v74 := L.v74
  have mL := F.mL; have eL := F.eL
  have H0 := CtI.start hC
  have e47 : ∀ args w, (callFunc (ρ.f 47) args).run P w = .ok (.enter (ρ.f 47) args) w := enters_of L.f47 (by kernel_rfl) rfl
  have hsz := F.small
  have hm := med_any (ρ := ρ) { L with } lt B size T ty rv gl gs F (a - 1) a (a + 1) x s (by omega) (by omega) ha2 hs d _ H0.ct
  rw [show ((a - 1 : Nat) : Int) = (a : Int) - 1 by omega, show ((a + 1 : Nat) : Int) = (a : Int) + 1 by omega] at hm
  unfold medianAdjacent
  generalize median lt d (a - 1) a (a + 1) s = m at hm ⊢
  go_enter L.f46, BodyGt.n46_ntmps ρ
  go_wp2_with (go_at_fn (ρ.f 47); refine hm.mono ?_; rintro e w1 ⟨rfl, C1, u1⟩)
  have H1 := H0.call C1 u1
  go_ret
  exact ⟨rfl, H1.ct, H1.up⟩

set_option maxHeartbeats 4000000 in
set_option maxRecDepth 1000000 in
theorem piv_any (L : LaysGt.n36 P ρ) (lt : α → α → Bool) (B size : Nat) (T : Array α → World → Prop) (ty : TypeId) (rv : Value) (gl gs : Nat) (F : IfaceFam P lt B size T ty rv gl gs) (a b : Nat) (hab : a < b) (hb : b ≤ size) (d : Array α) (w : World) (hT : T d w) :
    Calls P (ρ.f 36) #[.iface ty rv, .int .i64 a, .int .i64 b] w fun e w' => e = .returned (.tuple #[.int .i64 (choosePivot lt d a b).1, .int .i64 (hintCode (choosePivot lt d a b).2)]) ∧ T d w' ∧ Up B w w' := by
  have mixed := L.mixed; have t0 := L.t0; have a0 := L.a0; have z0 := L.z0; have v0 := L.v0; have t3 := L.t3; have a3 := L.a3; have z3 := L.z3
  have v3 := L.v3; have t4 := L.t4; have a4 := L.a4; have z4 := L.z4; have v4 := L.v4; have t26 := L.t26; have a26 := L.a26; have z26 := L.z26
  have v26 := L.v26; have t38 := L.t38; have a38 := L.a38; have z38 := L.z38; have v38 := L.v38; have t43 := L.t43; have a43 := L.a43; have z43 := L.z43
  have v43 := L.v43; have t45 := L.t45; have a45 := L.a45; have z45 := L.z45; have v45 := L.v45; have t60 := L.t60; have a60 := L.a60; have z60 := L.z60
  have v60 := L.v60; have t71 := L.t71; have a71 := L.a71; have z71 := L.z71; have v71 := L.v71; have t74 := L.t74; have a74 := L.a74; have z74 := L.z74
  have v74 := L.v74
  have e46 : ∀ args w, (callFunc (ρ.f 46) args).run P w = .ok (.enter (ρ.f 46) args) w := enters_of L.f46 (by kernel_rfl) rfl
  have e47 : ∀ args w, (callFunc (ρ.f 47) args).run P w = .ok (.enter (ρ.f 47) args) w := enters_of L.f47 (by kernel_rfl) rfl
  have hsz := F.small
  have hw : Below w.heap.size w (w.alloc (.cells #[.int .i64 0] (ρ.t 3))) := (Below.refl _ _).alloc (Nat.le_refl _) _
  have hB := F.play.base hT
  have H0 : CtI B T w w.heap.size d 0 (w.alloc (.cells #[.int .i64 0] (ρ.t 3))) :=
    ⟨⟨F.play.keep hT hw, hB, by simp, by rw [World.cell?_alloc_at _ _ _ _ rfl]; rfl, World.frozen?_alloc_at _ _ _ _ rfl⟩, UpC.of_up (Up.of_below hw)⟩
  rw [choosePivot_eq]
  obtain ⟨I, hI⟩ : ∃ I : Nat, I = a + (b - a) / 4 * 1 := ⟨_, rfl⟩
  obtain ⟨J, hJ⟩ : ∃ J : Nat, J = a + (b - a) / 4 * 2 := ⟨_, rfl⟩
  obtain ⟨K, hK⟩ : ∃ K : Nat, K = a + (b - a) / 4 * 3 := ⟨_, rfl⟩
  have eI : ((a : Int) + ((b : Int) - (a : Int)) / 4) = (I : Int) := by omega
  have eJ : ((a : Int) + ((b : Int) - (a : Int)) / 4 * 2) = (J : Int) := by omega
  have eK : ((a : Int) + ((b : Int) - (a : Int)) / 4 * 3) = (K : Int) := by omega
  by_cases h8 : b - a ≥ 8
  · by_cases h50 : b - a ≥ 50
    · obtain ⟨i1, s1, h1⟩ : ∃ i1 s1, medianAdjacent lt d I 0 = (i1, s1) := ⟨_, _, rfl⟩
      obtain ⟨j1, s2, h2⟩ : ∃ j1 s2, medianAdjacent lt d J s1 = (j1, s2) := ⟨_, _, rfl⟩
      obtain ⟨k1, s3, h3⟩ : ∃ k1 s3, medianAdjacent lt d K s2 = (k1, s3) := ⟨_, _, rfl⟩
      obtain ⟨p, s, h4⟩ : ∃ p s, median lt d i1 j1 k1 s3 = (p, s) := ⟨_, _, rfl⟩
      have hraw : rawPivot lt d a b = (p, s) := by simp only [rawPivot, if_pos h8, if_pos h50, ← hI, ← hJ, ← hK, h1, h2, h3, h4]
      have m1 := medianAdjacent_mem lt d I 0; rw [h1] at m1
      have m2 := medianAdjacent_mem lt d J s1; rw [h2] at m2
      have m3 := medianAdjacent_mem lt d K s2; rw [h3] at m3
      have n1 := medianAdjacent_count lt d I 0; rw [h1] at n1
      have n2 := medianAdjacent_count lt d J s1; rw [h2] at n2
      have n3 := medianAdjacent_count lt d K s2; rw [h3] at n3
      simp only [] at m1 m2 m3 n1 n2 n3
      have M1 : ∀ W, Ct B T (w.heap.size) d 0 W → Calls P (ρ.f 46) #[.iface ty rv, .int .i64 (I : Int), .pointer (some ⟨w.heap.size, 0, none⟩)] W fun e w' => e = .returned (.int .i64 (i1 : Int)) ∧ Ct B T (w.heap.size) d s1 w' ∧ UpC B (w.heap.size) W w' := fun W h => by
        have h := mad_any (ρ := ρ) { L with } lt B size T ty rv gl gs F I (w.heap.size) 0 (by omega) (by omega) (by omega) d W h; rw [h1] at h; exact h
      have M2 : ∀ W, Ct B T (w.heap.size) d s1 W → Calls P (ρ.f 46) #[.iface ty rv, .int .i64 (J : Int), .pointer (some ⟨w.heap.size, 0, none⟩)] W fun e w' => e = .returned (.int .i64 (j1 : Int)) ∧ Ct B T (w.heap.size) d s2 w' ∧ UpC B (w.heap.size) W w' := fun W h => by
        have h := mad_any (ρ := ρ) { L with } lt B size T ty rv gl gs F J (w.heap.size) s1 (by omega) (by omega) (by omega) d W h; rw [h2] at h; exact h
      have M3 : ∀ W, Ct B T (w.heap.size) d s2 W → Calls P (ρ.f 46) #[.iface ty rv, .int .i64 (K : Int), .pointer (some ⟨w.heap.size, 0, none⟩)] W fun e w' => e = .returned (.int .i64 (k1 : Int)) ∧ Ct B T (w.heap.size) d s3 w' ∧ UpC B (w.heap.size) W w' := fun W h => by
        have h := mad_any (ρ := ρ) { L with } lt B size T ty rv gl gs F K (w.heap.size) s2 (by omega) (by omega) (by omega) d W h; rw [h3] at h; exact h
      have M4 : ∀ W, Ct B T (w.heap.size) d s3 W → Calls P (ρ.f 47) #[.iface ty rv, .int .i64 (i1 : Int), .int .i64 (j1 : Int), .int .i64 (k1 : Int), .pointer (some ⟨w.heap.size, 0, none⟩)] W fun e w' => e = .returned (.int .i64 (p : Int)) ∧ Ct B T (w.heap.size) d s w' ∧ UpC B (w.heap.size) W w' := fun W h => by
        have h := med_any (ρ := ρ) { L with } lt B size T ty rv gl gs F i1 j1 k1 (w.heap.size) s3 (by omega) (by omega) (by omega) (by omega) d W h; rw [h4] at h; exact h
      have N1 : Hid _ := M1; have N2 : Hid _ := M2; have N3 : Hid _ := M3; have N4 : Hid _ := M4
      clear M1 M2 M3 M4
      rw [hraw]
      obtain ⟨Hc, hHc⟩ : ∃ Hc : Int, Hc = hintCode (hintOf s) := ⟨_, rfl⟩
      have hh0 : s = 0 → Hc = 1 := fun h => by rw [hHc, h]; rfl
      have hh12 : s = 12 → Hc = 2 := fun h => by rw [hHc, h]; rfl
      have hhx : s ≠ 0 → s ≠ 12 → Hc = 0 := fun h1 h2 => by rw [hHc]; unfold hintOf; rw [if_neg h1, if_neg h2]; rfl
      simp only []
      rw [← hHc]
      have HHc : Hid _ := hHc
      clear hHc hraw h1 h2 h3 h4 hI hJ hK m1 m2 m3
      have t1 := N1.out _ H0.ct
      go_enter L.f36, BodyGt.n36_ntmps ρ
      go_wp2_with (first
        | (go_at_fn (ρ.f 46); refine t1.mono ?_; rintro e w1 ⟨rfl, C1, u1⟩; have H1 := H0.call C1 u1; have k1c := H1.ct.at_; have t2 := N2.out _ H1.ct)
        | (go_at_fn (ρ.f 46); refine t2.mono ?_; rintro e w2 ⟨rfl, C2, u2⟩; have H2 := H1.call C2 u2; have k2c := H2.ct.at_; have t3 := N3.out _ H2.ct)
        | (go_at_fn (ρ.f 46); refine t3.mono ?_; rintro e w3 ⟨rfl, C3, u3⟩; have H3 := H2.call C3 u3; have k3c := H3.ct.at_; have t4 := N4.out _ H3.ct)
        | (go_at_fn (ρ.f 47); refine t4.mono ?_; rintro e w4 ⟨rfl, C4, u4⟩; have HF := H3.call C4 u4; have k4c := C4.at_))
      all_goals
        go_ret2
        refine ⟨?_, HF.ct.st, HF.up.1, fun k h1 h2 => HF.up.2 k h1 h2 (by omega)⟩
        first
          | (have e0 : (s : Int) = 0 := of_beq_int (by assumption)
             rw [hh0 (by omega)]; rfl)
          | (have e1 : (s : Int) = 12 := of_beq_int (by assumption)
             rw [hh12 (by omega)]; rfl)
          | (have e0 : (s : Int) ≠ 0 := of_bne_int (by assumption)
             have e1 : (s : Int) ≠ 12 := of_bne_int (by assumption)
             rw [hhx (by omega) (by omega)]; rfl)
          | (rw [hh0 (by omega)]; rfl)
    · obtain ⟨p, s, h4⟩ : ∃ p s, median lt d I J K 0 = (p, s) := ⟨_, _, rfl⟩
      have hraw : rawPivot lt d a b = (p, s) := by simp only [rawPivot, if_pos h8, if_neg h50, ← hI, ← hJ, ← hK, h4]
      have M4 : ∀ W, Ct B T (w.heap.size) d 0 W → Calls P (ρ.f 47) #[.iface ty rv, .int .i64 (I : Int), .int .i64 (J : Int), .int .i64 (K : Int), .pointer (some ⟨w.heap.size, 0, none⟩)] W fun e w' => e = .returned (.int .i64 (p : Int)) ∧ Ct B T (w.heap.size) d s w' ∧ UpC B (w.heap.size) W w' := fun W h => by
        have h := med_any (ρ := ρ) { L with } lt B size T ty rv gl gs F I J K (w.heap.size) 0 (by omega) (by omega) (by omega) (by omega) d W h; rw [h4] at h; exact h
      have t4 := M4 _ H0.ct
      clear M4
      rw [hraw]
      obtain ⟨Hc, hHc⟩ : ∃ Hc : Int, Hc = hintCode (hintOf s) := ⟨_, rfl⟩
      have hh0 : s = 0 → Hc = 1 := fun h => by rw [hHc, h]; rfl
      have hh12 : s = 12 → Hc = 2 := fun h => by rw [hHc, h]; rfl
      have hhx : s ≠ 0 → s ≠ 12 → Hc = 0 := fun h1 h2 => by rw [hHc]; unfold hintOf; rw [if_neg h1, if_neg h2]; rfl
      simp only []
      rw [← hHc]
      have HHc : Hid _ := hHc
      clear hHc hraw h4 hI hJ hK
      go_enter L.f36, BodyGt.n36_ntmps ρ
      go_wp2_with (go_at_fn (ρ.f 47); refine t4.mono ?_; rintro e w4 ⟨rfl, C4, u4⟩; have HF := H0.call C4 u4; have k4c := C4.at_)
      all_goals
        go_ret2
        refine ⟨?_, HF.ct.st, HF.up.1, fun k h1 h2 => HF.up.2 k h1 h2 (by omega)⟩
        first
          | (have e0 : (s : Int) = 0 := of_beq_int (by assumption)
             rw [hh0 (by omega)]; rfl)
          | (have e1 : (s : Int) = 12 := of_beq_int (by assumption)
             rw [hh12 (by omega)]; rfl)
          | (have e0 : (s : Int) ≠ 0 := of_bne_int (by assumption)
             have e1 : (s : Int) ≠ 12 := of_bne_int (by assumption)
             rw [hhx (by omega) (by omega)]; rfl)
          | (rw [hh0 (by omega)]; rfl)
  · have hraw : rawPivot lt d a b = (J, 0) := by simp only [rawPivot, if_neg h8, ← hJ]
    have hh : hintCode (hintOf 0) = 1 := rfl
    rw [hraw]
    simp only []
    rw [hh]
    have HF := H0
    clear hraw hh hI hJ hK
    go_enter L.f36, BodyGt.n36_ntmps ρ
    go_wp2
    all_goals
      go_ret2
      exact ⟨rfl, HF.ct.st, HF.up.1, fun k h1 h2 => HF.up.2 k h1 h2 (by omega)⟩

end Go.Proofs.Ytpkkomifenlkaaa.St
