/- siftDown, func -/
import Derived.Test.YtlpnecmcncekcaaGreatStBase
import Derived.Shelf.GgSortFunc.Slice
import Derived.Deep.LoopGhost
import Derived.WalkKit
import Derived.BigCall
import Derived.BigGuard
import Derived.Sort.WalkB2
namespace Go.Proofs.YtlpnecmcncekcaaGreat.St
open Go Go.RowKit Go.Shelf Go.Lib Go.Sort Go.Proofs
variable {P : Program} {ρ : Ren} {α : Type} [Inhabited α]

set_option maxHeartbeats 4000000 in
set_option maxRecDepth 1000000 in
theorem sift_any (L : LaysGg.n34 P ρ) (lt : α → α → Bool) (B size : Nat) (T : Array α → World → Prop) (g : Nat) (lb : Array Value) (sf : Nat) (sb : Array Value) (F : FuncFam P lt B size T g lb sf sb) (lo hi first : Nat) (hlo : lo ≤ hi) (hb : first + hi ≤ size) (d : Array α) (w : World) (hT : T d w) :
    Calls P (ρ.f 34) #[.agg #[.func (.func g) #[] lb, .func (.func sf) #[] sb], .int .i64 lo, .int .i64 hi, .int .i64 first] w fun e w' => e = .returned (.tuple #[]) ∧ T (siftDown lt hi first lo d) w' ∧ Up B w w' := by
  have mixed := L.mixed; have t0 := L.t0; have a0 := L.a0; have z0 := L.z0; have v0 := L.v0; have t3 := L.t3; have a3 := L.a3; have z3 := L.z3
  have v3 := L.v3; have t4 := L.t4; have a4 := L.a4; have z4 := L.z4; have v4 := L.v4; have t26 := L.t26; have a26 := L.a26; have z26 := L.z26
  have v26 := L.v26; have t37 := L.t37; have a37 := L.a37; have z37 := L.z37; have v37 := L.v37; have t44 := L.t44; have a44 := L.a44; have z44 := L.z44
  have v44 := L.v44
  have u44 := run_underlying L.t44
  have eg := F.eg
  have H0 := F.start hT (ρ.t 44)
  have hsz := F.small
  have hds := F.play.size hT
  go_enter L.f34, BodyGg.n34_ntmps ρ
  go_wp2
  go_loopg [8] (hi - lo) (fun kx s8 wr => ∃ (root : Nat) (dk : Array α), s8 = .int .i64 root ∧ root ≤ hi ∧ hi - root ≤ kx ∧ AtF B T g lb sf sb w w.heap.size dk wr ∧ Hid (siftDown lt hi first root dk = siftDown lt hi first lo d))
  case atStart => exact ⟨lo, d, rfl, hlo, Nat.le_refl _, H0, rfl⟩
  case round =>
    clear H0 hT
    obtain ⟨root, dk, rfl, hr, hkx, H, HE⟩ := hrel
    have c0 := H.c0
    by_cases h0 : hi ≤ 2 * root + 1
    · have h0z : (hi : Int) ≤ 2 * (root : Int) + 1 := by omega
      go_wp2
      go_end0
      exact ⟨rfl, by rw [← HE.out, sd_end lt dk h0]; exact H.st, H.up⟩
    · have h0z : ¬ ((hi : Int) ≤ 2 * (root : Int) + 1) := by omega
      by_cases h1 : 2 * root + 2 < hi
      · have h1z : 2 * (root : Int) + 1 + 1 < (hi : Int) := by omega
        cases hL : lt dk[first + (2 * root + 1)]! dk[first + (2 * root + 2)]! with
        | true =>
          have hl := H.less F (first + (2 * root + 1)) (first + (2 * root + 2)) true (by omega) (by omega) hL
          rw [show ((first + (2 * root + 1) : Nat) : Int) = (first : Int) + (2 * (root : Int) + 1) by omega, show ((first + (2 * root + 2) : Nat) : Int) = (first : Int) + (2 * (root : Int) + 1) + 1 by omega] at hl
          cases hG : lt dk[first + root]! dk[first + (2 * root + 2)]! with
          | true =>
            go_wp2_with (first | (go_at_fn g; refine hl.mono ?_; rintro e w1 ⟨rfl, H1⟩; have d0 := H1.c0; have hl2 := H1.less F (first + root) (first + (2 * root + 2)) true (by omega) (by omega) hG; rw [show ((first + root : Nat) : Int) = (first : Int) + (root : Int) by omega, show ((first + (2 * root + 2) : Nat) : Int) = (first : Int) + (2 * (root : Int) + 1 + 1) by omega] at hl2) | (go_at_fn g; refine hl2.mono ?_; rintro e w2 ⟨rfl, H2⟩; have c1 := H2.c1; obtain ⟨w3, hs, H3⟩ := H2.swap F (first + root) (first + (2 * root + 2)) (by omega) (by omega); rw [show ((first + root : Nat) : Int) = (first : Int) + (root : Int) by omega, show ((first + (2 * root + 2) : Nat) : Int) = (first : Int) + (2 * (root : Int) + 1 + 1) by omega] at hs))
            go_roundg (hi - (2 * root + 2))
            case measure => omega
            case rel => exact ⟨2 * root + 2, _, by go_num, by omega, Nat.le_refl _, H3, (show Hid _ from by rw [← HE.out, sd_right_go lt dk h1 hL hG]; exact rfl)⟩
          | false =>
            go_wp2_with (first | (go_at_fn g; refine hl.mono ?_; rintro e w1 ⟨rfl, H1⟩; have d0 := H1.c0; have hl2 := H1.less F (first + root) (first + (2 * root + 2)) false (by omega) (by omega) hG; rw [show ((first + root : Nat) : Int) = (first : Int) + (root : Int) by omega, show ((first + (2 * root + 2) : Nat) : Int) = (first : Int) + (2 * (root : Int) + 1 + 1) by omega] at hl2) | (go_at_fn g; refine hl2.mono ?_; rintro e w2 ⟨rfl, H2⟩))
            (try simp only [Exit.inBlock, Exit.then]); refine bodyPost_ret (results_none rfl _ _ _) rfl ?_
            exact ⟨rfl, by rw [← HE.out, sd_right_stop lt dk h1 hL hG]; exact H2.st, H2.up⟩
        | false =>
          have hl := H.less F (first + (2 * root + 1)) (first + (2 * root + 2)) false (by omega) (by omega) hL
          rw [show ((first + (2 * root + 1) : Nat) : Int) = (first : Int) + (2 * (root : Int) + 1) by omega, show ((first + (2 * root + 2) : Nat) : Int) = (first : Int) + (2 * (root : Int) + 1) + 1 by omega] at hl
          cases hG : lt dk[first + root]! dk[first + (2 * root + 1)]! with
          | true =>
            go_wp2_with (first | (go_at_fn g; refine hl.mono ?_; rintro e w1 ⟨rfl, H1⟩; have d0 := H1.c0; have hl2 := H1.less F (first + root) (first + (2 * root + 1)) true (by omega) (by omega) hG; rw [show ((first + root : Nat) : Int) = (first : Int) + (root : Int) by omega, show ((first + (2 * root + 1) : Nat) : Int) = (first : Int) + (2 * (root : Int) + 1) by omega] at hl2) | (go_at_fn g; refine hl2.mono ?_; rintro e w2 ⟨rfl, H2⟩; have c1 := H2.c1; obtain ⟨w3, hs, H3⟩ := H2.swap F (first + root) (first + (2 * root + 1)) (by omega) (by omega); rw [show ((first + root : Nat) : Int) = (first : Int) + (root : Int) by omega, show ((first + (2 * root + 1) : Nat) : Int) = (first : Int) + (2 * (root : Int) + 1) by omega] at hs))
            go_roundg (hi - (2 * root + 1))
            case measure => omega
            case rel => exact ⟨2 * root + 1, _, by go_num, by omega, Nat.le_refl _, H3, (show Hid _ from by rw [← HE.out, sd_left_go lt dk (by omega) (fun _ => hL) hG]; exact rfl)⟩
          | false =>
            go_wp2_with (first | (go_at_fn g; refine hl.mono ?_; rintro e w1 ⟨rfl, H1⟩; have d0 := H1.c0; have hl2 := H1.less F (first + root) (first + (2 * root + 1)) false (by omega) (by omega) hG; rw [show ((first + root : Nat) : Int) = (first : Int) + (root : Int) by omega, show ((first + (2 * root + 1) : Nat) : Int) = (first : Int) + (2 * (root : Int) + 1) by omega] at hl2) | (go_at_fn g; refine hl2.mono ?_; rintro e w2 ⟨rfl, H2⟩))
            (try simp only [Exit.inBlock, Exit.then]); refine bodyPost_ret (results_none rfl _ _ _) rfl ?_
            exact ⟨rfl, by rw [← HE.out, sd_left_stop lt dk (by omega) (fun _ => hL) hG]; exact H2.st, H2.up⟩
      · have h1z : ¬ (2 * (root : Int) + 1 + 1 < (hi : Int)) := by omega
        cases hG : lt dk[first + root]! dk[first + (2 * root + 1)]! with
        | true =>
          have hl2 := H.less F (first + root) (first + (2 * root + 1)) true (by omega) (by omega) hG; rw [show ((first + root : Nat) : Int) = (first : Int) + (root : Int) by omega, show ((first + (2 * root + 1) : Nat) : Int) = (first : Int) + (2 * (root : Int) + 1) by omega] at hl2
          go_wp2_with (first | (go_at_fn g; refine hl2.mono ?_; rintro e w2 ⟨rfl, H2⟩; have c1 := H2.c1; obtain ⟨w3, hs, H3⟩ := H2.swap F (first + root) (first + (2 * root + 1)) (by omega) (by omega); rw [show ((first + root : Nat) : Int) = (first : Int) + (root : Int) by omega, show ((first + (2 * root + 1) : Nat) : Int) = (first : Int) + (2 * (root : Int) + 1) by omega] at hs))
          go_roundg (hi - (2 * root + 1))
          case measure => omega
          case rel => exact ⟨2 * root + 1, _, by go_num, by omega, Nat.le_refl _, H3, (show Hid _ from by rw [← HE.out, sd_left_go lt dk (by omega) (fun h => absurd h h1) hG]; exact rfl)⟩
        | false =>
          have hl2 := H.less F (first + root) (first + (2 * root + 1)) false (by omega) (by omega) hG; rw [show ((first + root : Nat) : Int) = (first : Int) + (root : Int) by omega, show ((first + (2 * root + 1) : Nat) : Int) = (first : Int) + (2 * (root : Int) + 1) by omega] at hl2
          go_wp2_with (first | (go_at_fn g; refine hl2.mono ?_; rintro e w2 ⟨rfl, H2⟩))
          (try simp only [Exit.inBlock, Exit.then]); refine bodyPost_ret (results_none rfl _ _ _) rfl ?_
          exact ⟨rfl, by rw [← HE.out, sd_left_stop lt dk (by omega) (fun h => absurd h h1) hG]; exact H2.st, H2.up⟩

end Go.Proofs.YtlpnecmcncekcaaGreat.St
