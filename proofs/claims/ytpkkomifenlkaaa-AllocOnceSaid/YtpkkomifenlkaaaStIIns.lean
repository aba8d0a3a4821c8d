/- insertionSort, iface -/
import Derived.Test.YtpkkomifenlkaaaStBase
import Derived.Shelf.GgSortMore.Iface
import Derived.Deep.LoopGhost
import Derived.WalkKit
import Derived.BigCall
import Derived.BigGuard
import Derived.Sort.WalkA
namespace Go.Proofs.Ytpkkomifenlkaaa.St
open Go Go.RowKit Go.Shelf Go.Lib Go.Sort Go.Proofs
variable {P : Program} {ρ : Ren} {α : Type} [Inhabited α]

set_option maxHeartbeats 2000000 in
set_option maxRecDepth 1000000 in
theorem ins_any (L : LaysGt.n33 P ρ) (lt : α → α → Bool) (B size : Nat) (T : Array α → World → Prop) (ty : TypeId) (rv : Value) (gl gs : Nat) (F : IfaceFam P lt B size T ty rv gl gs) (a b : Nat) (hab : a ≤ b) (hb : b ≤ size) (d : Array α) (w : World) (hT : T d w) :
    Calls P (ρ.f 33) #[.iface ty rv, .int .i64 a, .int .i64 b] w fun e w' => e = .returned (.tuple #[]) ∧ T (insertionSort lt d a b) w' ∧ Up B w w' := by
  have mixed := L.mixed; have t0 := L.t0; have a0 := L.a0; have z0 := L.z0; have v0 := L.v0; have t3 := L.t3; have a3 := L.a3; have z3 := L.z3
  have v3 := L.v3; have t4 := L.t4; have a4 := L.a4; have z4 := L.z4; have v4 := L.v4; have t26 := L.t26; have a26 := L.a26; have z26 := L.z26
  have v26 := L.v26; have t38 := L.t38; have a38 := L.a38; have z38 := L.z38; have v38 := L.v38; have t43 := L.t43; have a43 := L.a43; have z43 := L.z43
  have v43 := L.v43; have t45 := L.t45; have a45 := L.a45; have z45 := L.z45; have v45 := L.v45
  have mL := F.mL; have mS := F.mS; have eL := F.eL; have eS := F.eS
  have H0 := AtI.start (B := B) hT
  have hsz := F.small
  have hds := F.play.size hT
  go_enter L.f33, BodyGt.n33_ntmps ρ
  go_wp2
  go_loopw [6] (fun vi wr => ∃ (i : Nat) (dk : Array α), vi = .int .i64 i ∧ a < i ∧ i ≤ b + 1 ∧ AtI B T w dk wr ∧ Hid (insOuter lt a b i dk = insOuter lt a b (a + 1) d)) (fun vi _ => b + 1 - (RowKit.intOf vi).toNat)
  case atStart => exact ⟨a + 1, d, by go_num, by omega, by omega, H0, rfl⟩
  case round =>
    clear H0 hT
    obtain ⟨i, dk, rfl, hai, hib, H, HO⟩ := hrel
    go_wp2
    · go_loopw [7] (fun vj wr2 => ∃ (j : Nat) (dj : Array α), vj = .int .i64 j ∧ a ≤ j ∧ j ≤ i ∧ AtI B T w dj wr2 ∧ Hid (insInner lt a j dj = insInner lt a i dk)) (fun vj _ => (RowKit.intOf vj).toNat)
      case atStart => exact ⟨i, dk, rfl, by omega, Nat.le_refl _, H, rfl⟩
      case round =>
        clear H
        obtain ⟨j, dj, rfl, haj, hji, H, HI⟩ := hrel
        have hlt : i < b := by assumption
        skip
        by_cases hja : a < j
        · cases hlv : lt dj[j]! dj[j - 1]! with
          | true =>
            have hl := H.less F (j) (j - 1) true (by omega) (by omega) hlv; rw [show ((j - 1 : Nat) : Int) = (j : Int) - 1 by omega] at hl
            go_wp2_with (first | (go_at_fn gl; refine hl.mono ?_; rintro e w1 ⟨rfl, H1⟩) | (go_at_fn gs; have hs := H1.swap F (j) (j - 1) (by omega) (by omega); rw [show ((j - 1 : Nat) : Int) = (j : Int) - 1 by omega] at hs; refine hs.mono ?_; rintro e w2 ⟨rfl, H2⟩))
            go_roundw
            case rel =>
              (repeat apply Exists.intro)
              refine ⟨⟨j - 1, swp dj j (j - 1), by congr 1 <;> omega, by omega, by omega, H2, ?_⟩, by rw [decide_eq_true hlt, show ((j - 1 : Nat) : Int) = (j : Int) - 1 by omega]⟩
              show _ = _
              rw [← HI.out, insInner_go lt a j dj hja hlv]
            case measure => simp [RowKit.intOf]; omega
          | false =>
            have hl := H.less F (j) (j - 1) false (by omega) (by omega) hlv; rw [show ((j - 1 : Nat) : Int) = (j : Int) - 1 by omega] at hl
            go_wp2_with (go_at_fn gl; refine hl.mono ?_; rintro e w1 ⟨rfl, H1⟩)
            go_roundw
            case rel => exact ⟨i + 1, dj, by go_num, by omega, by omega, H1, by show _ = _; rw [← HO.out, insOuter_go _ _ _ _ _ hlt, ← HI.out, insInner_stop _ _ _ _ (Or.inr hlv)]⟩
            case measure => simp [RowKit.intOf]; omega
        · go_wp2
          go_roundw
          case rel => exact ⟨i + 1, dj, by go_num, by omega, by omega, H, by show _ = _; rw [← HO.out, insOuter_go _ _ _ _ _ hlt, ← HI.out, insInner_stop _ _ _ _ (Or.inl (by omega))]⟩
          case measure => simp [RowKit.intOf]; omega
    · have hge : ¬ i < b := by assumption
      go_end0
      exact ⟨rfl, by unfold Sort.insertionSort; rw [← HO.out, insOuter_stop _ _ _ _ _ hge]; exact H.st, H.up⟩

end Go.Proofs.Ytpkkomifenlkaaa.St
