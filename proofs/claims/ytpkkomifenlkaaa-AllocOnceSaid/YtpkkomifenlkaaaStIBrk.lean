/- breakPatterns, iface -/
import Derived.Test.YtpkkomifenlkaaaStBase
import Derived.Shelf.GgSortMore.Iface
import Derived.Deep.LoopGhost
import Derived.WalkKit
import Derived.BigCall
import Derived.BigGuard
import Derived.Shelf.SlSortFunc.Xorshift
import Derived.Shelf.GgSortMore.Bridge
import Derived.Sort.Walk7
namespace Go.Proofs.Ytpkkomifenlkaaa.St
open Go Go.RowKit Go.Shelf Go.Lib Go.Sort Go.Proofs
variable {P : Program} {ρ : Ren} {α : Type} [Inhabited α]

/-- The row beside the call's own number, in block K. -/
structure RnI (B : Nat) (T : Array α → World → Prop) (w0 : World) (K : Nat) (d : Array α) (r : Nat) (W : World) : Prop where
  st : T d W
  up : Up B w0 W
  own : B ≤ K
  new : w0.heap.size ≤ K
  lt : K < W.heap.size
  at_ : W.cell? ⟨K, 0, none⟩ = some (.int .u64 r)
  f : W.frozen? ⟨K, 0, none⟩ = false
omit [Inhabited α] in
theorem RnI.call {B : Nat} {T : Array α → World → Prop} {w0 : World} {K : Nat} {d : Array α} {r : Nat} {W : World} (H : RnI B T w0 K d r W) {d' : Array α} {w : World} (h : T d' w) (u : Up B W w) : RnI B T w0 K d' r w :=
  ⟨h, H.up.trans u, H.own, H.new, Nat.lt_of_lt_of_le H.lt u.1, (u.cell H.own H.lt).trans H.at_, (u.frozen H.own H.lt).trans H.f⟩
omit [Inhabited α] in
theorem RnI.turn {B size : Nat} {T : Array α → World → Prop} {w0 : World} {K : Nat} {d : Array α} {r : Nat} {W : World} (H : RnI B T w0 K d r W) (F : Play B size T) (r' q : Nat) : RnI B T w0 K d r' ((W.setCell ⟨K, 0, none⟩ (.int .u64 r')).drewN q) := by
  have h1 := F.set H.st ⟨K, 0, none⟩ (.int .u64 r') H.own
  have b : Go.RowKit.Below (W.setCell ⟨K, 0, none⟩ (.int .u64 r')).heap.size (W.setCell ⟨K, 0, none⟩ (.int .u64 r')) ((W.setCell ⟨K, 0, none⟩ (.int .u64 r')).drewN q) := ⟨rfl, rfl, rfl, Nat.le_refl _, fun _ _ => rfl⟩
  refine ⟨F.keep h1 b, ⟨by simpa using H.up.1, fun k hB hk => (Below.heap_setCell _ _ _ _ (fun e => by have e2 : k = K := e; have := H.new; omega)).trans (H.up.2 k hB hk)⟩, H.own, H.new, by simpa using H.lt, ?_, ?_⟩
  · rw [World.cell?_drewN]; exact World.cell?_setCell_same _ _ _ H.at_
  · rw [World.frozen?_drewN]; simpa using H.f
set_option maxHeartbeats 4000000 in
set_option maxRecDepth 1000000 in
/-- The arm 'length >= 8', b written as a + M. -/
theorem brk_go (L : LaysGt.n35 P ρ) (lt : α → α → Bool) (B size : Nat) (T : Array α → World → Prop) (ty : TypeId) (rv : Value) (gl gs : Nat) (F : IfaceFam P lt B size T ty rv gl gs) (a M : Nat) (h8 : 8 ≤ M) (hb : a + M ≤ size) (d : Array α) (w : World) (hT : T d w) :
    Calls P (ρ.f 35) #[.iface ty rv, .int .i64 a, .int .i64 ((a + M : Nat) : Int)] w fun e w' => e = .returned (.tuple #[]) ∧ T (breakPatterns d a (a + M)) w' ∧ Up B w w' := by
  have mixed := L.mixed; have t0 := L.t0; have a0 := L.a0; have z0 := L.z0; have v0 := L.v0; have t3 := L.t3; have a3 := L.a3; have z3 := L.z3
  have v3 := L.v3; have t4 := L.t4; have a4 := L.a4; have z4 := L.z4; have v4 := L.v4; have t5 := L.t5; have a5 := L.a5; have z5 := L.z5
  have v5 := L.v5; have t9 := L.t9; have a9 := L.a9; have z9 := L.z9; have v9 := L.v9; have t26 := L.t26; have a26 := L.a26; have z26 := L.z26
  have v26 := L.v26; have t38 := L.t38; have a38 := L.a38; have z38 := L.z38; have v38 := L.v38; have t43 := L.t43; have a43 := L.a43; have z43 := L.z43
  have v43 := L.v43; have t45 := L.t45; have a45 := L.a45; have z45 := L.z45; have v45 := L.v45; have t47 := L.t47; have a47 := L.a47; have z47 := L.z47
  have v47 := L.v47; have t56 := L.t56; have a56 := L.a56; have z56 := L.z56; have v56 := L.v56; have t58 := L.t58; have a58 := L.a58; have z58 := L.z58
  have v58 := L.v58; have t67 := L.t67; have a67 := L.a67; have z67 := L.z67; have v67 := L.v67; have t73 := L.t73; have a73 := L.a73; have z73 := L.z73
  have v73 := L.v73
  have mL := F.mL; have mS := F.mS; have eL := F.eL; have eS := F.eS
  have e44 : ∀ args w, (callFunc (ρ.f 44) args).run P w = .ok (.enter (ρ.f 44) args) w := enters_of L.f44 (by kernel_rfl) rfl
  have e45 : ∀ args w, (callFunc (ρ.f 45) args).run P w = .ok (.enter (ρ.f 45) args) w := enters_of L.f45 (by kernel_rfl) rfl
  have hsz := F.small
  have hB0 := F.play.base hT
  rw [breakPatterns_eq d a M h8]
  obtain ⟨Q, hQ⟩ : ∃ Q : Nat, Q = 1 <<< bitsLen M := ⟨_, rfl⟩
  have hQ1 : 1 ≤ Q := by rw [hQ, Nat.one_shiftLeft]; exact Nat.two_pow_pos _
  have hQ2 : Q ≤ 2 * M := by rw [hQ, Nat.one_shiftLeft]; exact two_pow_bitsLen_le (by omega)
  have hNP : ∀ w, Calls P (ρ.f 44) #[.int .i64 (M : Int)] w fun e w' => e = .returned (.int .u64 (Q : Int)) ∧ w' = w := by rw [hQ]; exact fun w => Any.nextPowerOfTwo (LaysGt.n44.elder (P := P) (ρ := ρ) { L with }) M (by omega) w
  rw [← hQ]
  clear hQ
  have hMz : ((a : Int) + (M : Int) - (a : Int)) = (M : Int) := by omega
  have h8z : (8 : Int) ≤ (M : Int) := by omega
  have HT0 : Hid (T d w) := hT
  clear hT
  go_enter L.f35, BodyGt.n35_ntmps ρ
  go_wp2_with (first | (go_at_fn (ρ.f 44); refine (hNP _).mono ?_; rintro e w' ⟨rfl, rfl⟩))
  go_loopg [9] 3 (fun g1 vi wr => ∃ (t : Nat) (r : UInt64) (dk : Array α), vi = .int .i64 ((a : Int) + (M : Int) / 4 * 2 - 1 + (t : Int)) ∧ t ≤ 3 ∧ 3 - t ≤ g1 ∧ RnI B T w w.heap.size dk r.toNat wr ∧
      Hid (bpRest a M Q (a + M / 4 * 2 - 1) (3 - t) t (r, dk) = bpRest a M Q (a + M / 4 * 2 - 1) 3 0 (UInt64.ofNat M, d)))
  case atStart =>
    refine ⟨0, UInt64.ofNat M, d, by simp, by omega, by omega, ⟨F.play.keep HT0.out ((Go.RowKit.Below.refl _ _).alloc (Nat.le_refl _) _), Up.new _ _ _, hB0, Nat.le_refl _, by simp, ?_, by simp⟩, rfl⟩
    rw [show (UInt64.ofNat M).toNat = M from by simp; omega]
    simp
  case round =>
    obtain ⟨t, r, dk, rfl, ht, hg1, H, HR⟩ := hrel
    by_cases ht3 : t < 3
    · have hle : (a : Int) + (M : Int) / 4 * 2 - 1 + (t : Int) ≤ (a : Int) + (M : Int) / 4 * 2 + 1 := by omega
      obtain ⟨R, hRr⟩ : ∃ R : Nat, R = r.toNat := ⟨_, rfl⟩
      have lR : R < 18446744073709551616 := by rw [hRr]; exact r.toNat_lt
      obtain ⟨R', hR'⟩ : ∃ R' : Nat, R' = xorNextN R := ⟨_, rfl⟩
      have lR' : R' < 18446744073709551616 := by rw [hR']; exact xorNextN_lt R lR
      obtain ⟨O, hO⟩ : ∃ O : Nat, O = R' &&& (Q - 1) := ⟨_, rfl⟩
      have lO : O ≤ Q - 1 := by rw [hO]; exact Nat.and_le_right
      have eAnd : bits .and .u64 (R' : Int) ((Q : Int) - 1) = (O : Int) := by
        rw [show ((Q : Int) - 1) = ((Q - 1 : Nat) : Int) by omega, bits_and_u64_nat _ _ lR' (by omega), hO]
      rw [← hRr] at H
      have hNext : Calls P (ρ.f 45) #[.pointer (some ⟨w.heap.size, 0, none⟩)] wr fun e w' => e = .returned (.int .u64 (R' : Int)) ∧ w' = (wr.setCell ⟨w.heap.size, 0, none⟩ (.int .u64 (R' : Int))).drewN 3 := by
        rw [hR']; exact Any.xorshift_Next (LaysGt.n45.elder (P := P) (ρ := ρ) { L with }) _ _ R lR wr H.at_ H.f
      have HN : Hid (R' = (xorNext r).toNat ∧ O = (xorNext r).toNat &&& (Q - 1)) := by
        have e : R' = (xorNext r).toNat := by rw [hR', hRr, xorNext_toNat]
        exact ⟨e, by rw [hO, e]⟩
      clear hRr hR' hO
      have S2 := H.turn F.play R' 3
      generalize (wr.setCell ⟨w.heap.size, 0, none⟩ (.int .u64 (R' : Int))).drewN 3 = w2 at hNext S2
      clear H
      by_cases hMO : M ≤ O
      · have hMOz : (M : Int) ≤ (O : Int) := by omega
        have hs := F.swap S2.st (a + M / 4 * 2 - 1 + t) (a + (O - M)) (by omega) (by omega)
        rw [show ((a + M / 4 * 2 - 1 + t : Nat) : Int) = (a : Int) + (M : Int) / 4 * 2 - 1 + (t : Int) by omega, show ((a + (O - M) : Nat) : Int) = (a : Int) + ((O : Int) - (M : Int)) by omega] at hs
        go_wp2_with (first | (go_at_fn (ρ.f 45); refine hNext.mono ?_; rintro e w' ⟨rfl, rfl⟩) | (go_at_fn gs; refine hs.mono ?_; rintro e w3 ⟨rfl, hT3, hU3⟩))
        have S3 := S2.call hT3 hU3
        go_roundg (3 - (t + 1))
        case measure => omega
        case rel => exact ⟨t + 1, xorNext r, swp dk (a + M / 4 * 2 - 1 + t) (a + (O - M)), by congr 1; push_cast; omega, by omega, Nat.le_refl _, by rw [← HN.out.1]; exact S3,
          (show Hid _ from by rw [← HR.out, bp_step a M Q _ t r dk (O - M) ht3 (by rw [← HN.out.2, if_pos (by omega)])]; exact rfl)⟩
      · have hMOz : ¬ (M : Int) ≤ (O : Int) := by omega
        have hs := F.swap S2.st (a + M / 4 * 2 - 1 + t) (a + O) (by omega) (by omega)
        rw [show ((a + M / 4 * 2 - 1 + t : Nat) : Int) = (a : Int) + (M : Int) / 4 * 2 - 1 + (t : Int) by omega, show ((a + O : Nat) : Int) = (a : Int) + (O : Int) by omega] at hs
        go_wp2_with (first | (go_at_fn (ρ.f 45); refine hNext.mono ?_; rintro e w' ⟨rfl, rfl⟩) | (go_at_fn gs; refine hs.mono ?_; rintro e w3 ⟨rfl, hT3, hU3⟩))
        have S3 := S2.call hT3 hU3
        go_roundg (3 - (t + 1))
        case measure => omega
        case rel => exact ⟨t + 1, xorNext r, swp dk (a + M / 4 * 2 - 1 + t) (a + O), by congr 1; push_cast; omega, by omega, Nat.le_refl _, by rw [← HN.out.1]; exact S3,
          (show Hid _ from by rw [← HR.out, bp_step a M Q _ t r dk O ht3 (by rw [← HN.out.2, if_neg (by omega)])]; exact rfl)⟩
    · obtain rfl : t = 3 := by omega
      have hle : ¬ ((a : Int) + (M : Int) / 4 * 2 - 1 + ((3 : Nat) : Int) ≤ (a : Int) + (M : Int) / 4 * 2 + 1) := by omega
      go_wp2
      go_end0
      refine ⟨rfl, ?_, H.up⟩
      rw [← HR.out]
      exact H.st
set_option maxHeartbeats 2000000 in
set_option maxRecDepth 1000000 in
theorem brk_any (L : LaysGt.n35 P ρ) (lt : α → α → Bool) (B size : Nat) (T : Array α → World → Prop) (ty : TypeId) (rv : Value) (gl gs : Nat) (F : IfaceFam P lt B size T ty rv gl gs) (a b : Nat) (hab : a ≤ b) (hb : b ≤ size) (d : Array α) (w : World) (hT : T d w) :
    Calls P (ρ.f 35) #[.iface ty rv, .int .i64 a, .int .i64 b] w fun e w' => e = .returned (.tuple #[]) ∧ T (breakPatterns d a b) w' ∧ Up B w w' := by
  obtain ⟨M, rfl⟩ : ∃ M, b = a + M := ⟨b - a, by omega⟩
  by_cases h8 : 8 ≤ M
  · exact brk_go L lt B size T ty rv gl gs F a M h8 hb d w hT
  · have hv : breakPatterns d a (a + M) = d := by unfold breakPatterns; simp only [Nat.add_sub_cancel_left]; rw [if_neg h8]
    rw [hv]
    have mixed := L.mixed; have t0 := L.t0; have a0 := L.a0; have z0 := L.z0; have v0 := L.v0; have t3 := L.t3; have a3 := L.a3; have z3 := L.z3
    have v3 := L.v3; have t4 := L.t4; have a4 := L.a4; have z4 := L.z4; have v4 := L.v4; have t5 := L.t5; have a5 := L.a5; have z5 := L.z5
    have v5 := L.v5; have t9 := L.t9; have a9 := L.a9; have z9 := L.z9; have v9 := L.v9; have t26 := L.t26; have a26 := L.a26; have z26 := L.z26
    have v26 := L.v26; have t38 := L.t38; have a38 := L.a38; have z38 := L.z38; have v38 := L.v38; have t43 := L.t43; have a43 := L.a43; have z43 := L.z43
    have v43 := L.v43; have t45 := L.t45; have a45 := L.a45; have z45 := L.z45; have v45 := L.v45; have t47 := L.t47; have a47 := L.a47; have z47 := L.z47
    have v47 := L.v47; have t56 := L.t56; have a56 := L.a56; have z56 := L.z56; have v56 := L.v56; have t58 := L.t58; have a58 := L.a58; have z58 := L.z58
    have v58 := L.v58; have t67 := L.t67; have a67 := L.a67; have z67 := L.z67; have v67 := L.v67; have t73 := L.t73; have a73 := L.a73; have z73 := L.z73
    have v73 := L.v73
    have hMz : ((a : Int) + (M : Int) - (a : Int)) = (M : Int) := by omega
    have h8z : ¬ (8 : Int) ≤ (M : Int) := by omega
    have HT0 : Hid (T d w) := hT
    clear hT hv
    go_enter L.f35, BodyGt.n35_ntmps ρ
    go_wp2
    go_end0
    exact ⟨rfl, HT0.out, Up.refl _ _⟩

end Go.Proofs.Ytpkkomifenlkaaa.St
