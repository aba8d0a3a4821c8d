/- insertionSort, func -/
import Derived.Test.YtlpnecmcncekcaaGreatStBase
import Derived.Shelf.GgSortFunc.Slice
import Derived.Deep.LoopGhost
import Derived.WalkKit
import Derived.BigCall
import Derived.BigGuard
import Derived.Sort.WalkA
namespace Go.Proofs.YtlpnecmcncekcaaGreat.St
open Go Go.RowKit Go.Shelf Go.Lib Go.Sort Go.Proofs
variable {P : Program} {ρ : Ren} {α : Type} [Inhabited α]

set_option maxHeartbeats 2000000 in
set_option maxRecDepth 1000000 in
theorem ins_any (L : LaysGg.n26 P ρ) (lt : α → α → Bool) (B size : Nat) (T : Array α → World → Prop) (g : Nat) (lb : Array Value) (sf : Nat) (sb : Array Value) (F : FuncFam P lt B size T g lb sf sb) (a b : Nat) (hab : a ≤ b) (hb : b ≤ size) (d : Array α) (w : World) (hT : T d w) :
    Calls P (ρ.f 26) #[.agg #[.func (.func g) #[] lb, .func (.func sf) #[] sb], .int .i64 a, .int .i64 b] w fun e w' => e = .returned (.tuple #[]) ∧ T (insertionSort lt d a b) w' ∧ Up B w w' := by
  have mixed := L.mixed; have t0 := L.t0; have a0 := L.a0; have z0 := L.z0; have v0 := L.v0; have t3 := L.t3; have a3 := L.a3; have z3 := L.z3
  have v3 := L.v3; have t4 := L.t4; have a4 := L.a4; have z4 := L.z4; have v4 := L.v4; have t26 := L.t26; have a26 := L.a26; have z26 := L.z26
  have v26 := L.v26; have t37 := L.t37; have a37 := L.a37; have z37 := L.z37; have v37 := L.v37; have t44 := L.t44; have a44 := L.a44; have z44 := L.z44
  have v44 := L.v44
  have u44 := run_underlying L.t44
  have eg := F.eg
  have H0 := F.start hT (ρ.t 44)
  have hsz := F.small
  have hds := F.play.size hT
  go_enter L.f26, BodyGg.n26_ntmps ρ
  go_wp2
  go_loopw [6] (fun vi wr => ∃ (i : Nat) (dk : Array α), vi = .int .i64 i ∧ a < i ∧ i ≤ b + 1 ∧ AtF B T g lb sf sb w w.heap.size dk wr ∧ Hid (insOuter lt a b i dk = insOuter lt a b (a + 1) d)) (fun vi _ => b + 1 - (RowKit.intOf vi).toNat)
  case atStart => exact ⟨a + 1, d, by go_num, by omega, by omega, H0, rfl⟩
  case round =>
    clear H0 hT
    obtain ⟨i, dk, rfl, hai, hib, H, HO⟩ := hrel
    go_wp2
    · go_loopw [7] (fun vj wr2 => ∃ (j : Nat) (dj : Array α), vj = .int .i64 j ∧ a ≤ j ∧ j ≤ i ∧ AtF B T g lb sf sb w w.heap.size dj wr2 ∧ Hid (insInner lt a j dj = insInner lt a i dk)) (fun vj _ => (RowKit.intOf vj).toNat)
      case atStart => exact ⟨i, dk, rfl, by omega, Nat.le_refl _, H, rfl⟩
      case round =>
        clear H
        obtain ⟨j, dj, rfl, haj, hji, H, HI⟩ := hrel
        have hlt : i < b := by assumption
        have c0 := H.c0
        by_cases hja : a < j
        · cases hlv : lt dj[j]! dj[j - 1]! with
          | true =>
            have hl := H.less F (j) (j - 1) true (by omega) (by omega) hlv; rw [show ((j - 1 : Nat) : Int) = (j : Int) - 1 by omega] at hl
            go_wp2_with (go_at_fn g; refine hl.mono ?_; rintro e w1 ⟨rfl, H1⟩; have c1 := H1.c1; obtain ⟨w2, hs, H2⟩ := H1.swap F (j) (j - 1) (by omega) (by omega); rw [show ((j - 1 : Nat) : Int) = (j : Int) - 1 by omega] at hs)
            go_roundw
            case rel =>
              (repeat apply Exists.intro)
              refine ⟨⟨j - 1, swp dj j (j - 1), by congr 1 <;> omega, by omega, by omega, H2, ?_⟩, by rw [decide_eq_true hlt, show ((j - 1 : Nat) : Int) = (j : Int) - 1 by omega]⟩
              show _ = _
              rw [← HI.out, insInner_go lt a j dj hja hlv]
            case measure => simp [RowKit.intOf]; omega
          | false =>
            have hl := H.less F (j) (j - 1) false (by omega) (by omega) hlv; rw [show ((j - 1 : Nat) : Int) = (j : Int) - 1 by omega] at hl
            go_wp2_with (go_at_fn g; refine hl.mono ?_; rintro e w1 ⟨rfl, H1⟩)
            go_roundw
            case rel => exact ⟨i + 1, dj, by go_num, by omega, by omega, H1, by show _ = _; rw [← HO.out, insOuter_go _ _ _ _ _ hlt, ← HI.out, insInner_stop _ _ _ _ (Or.inr hlv)]⟩
            case measure => simp [RowKit.intOf]; omega
        · go_wp2
          go_roundw
          case rel => exact ⟨i + 1, dj, by go_num, by omega, by omega, H, by show _ = _; rw [← HO.out, insOuter_go _ _ _ _ _ hlt, ← HI.out, insInner_stop _ _ _ _ (Or.inl (by omega))]⟩
          case measure => simp [RowKit.intOf]; omega
    · have hge : ¬ i < b := by assumption
      go_end0
      exact ⟨rfl, by unfold Sort.insertionSort; rw [← HO.out, insOuter_stop _ _ _ _ _ hge]; exact H.st, H.up⟩

end Go.Proofs.YtlpnecmcncekcaaGreat.St
