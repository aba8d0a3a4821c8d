/- heapSort, iface -/
import Derived.Test.YtpkkomifenlkaaaStISift
import Derived.Sort.WalkB3
namespace Go.Proofs.Ytpkkomifenlkaaa.St
open Go Go.RowKit Go.Shelf Go.Lib Go.Sort Go.Proofs
variable {P : Program} {ρ : Ren} {α : Type} [Inhabited α]

set_option maxHeartbeats 4000000 in
set_option maxRecDepth 1000000 in
theorem heap_any (L : LaysGt.n34 P ρ) (lt : α → α → Bool) (B size : Nat) (T : Array α → World → Prop) (ty : TypeId) (rv : Value) (gl gs : Nat) (F : IfaceFam P lt B size T ty rv gl gs) (a b : Nat) (hab : a ≤ b) (hb : b ≤ size) (d : Array α) (w : World) (hT : T d w) :
    Calls P (ρ.f 34) #[.iface ty rv, .int .i64 a, .int .i64 b] w fun e w' => e = .returned (.tuple #[]) ∧ T (heapSort lt d a b) w' ∧ Up B w w' := by
  have mixed := L.mixed; have t0 := L.t0; have a0 := L.a0; have z0 := L.z0; have v0 := L.v0; have t3 := L.t3; have a3 := L.a3; have z3 := L.z3
  have v3 := L.v3; have t4 := L.t4; have a4 := L.a4; have z4 := L.z4; have v4 := L.v4; have t26 := L.t26; have a26 := L.a26; have z26 := L.z26
  have v26 := L.v26; have t38 := L.t38; have a38 := L.a38; have z38 := L.z38; have v38 := L.v38; have t43 := L.t43; have a43 := L.a43; have z43 := L.z43
  have v43 := L.v43; have t45 := L.t45; have a45 := L.a45; have z45 := L.z45; have v45 := L.v45
  have mL := F.mL; have mS := F.mS; have eL := F.eL; have eS := F.eS
  have H0 := AtI.start (B := B) hT
  have hsz := F.small
  have hds := F.play.size hT
  have e43 : ∀ args w, (callFunc (ρ.f 43) args).run P w = .ok (.enter (ρ.f 43) args) w := enters_of L.f43 (by kernel_rfl) rfl
  have ecast : ((b - a : Nat) : Int) = (b : Int) - (a : Int) := by omega
  go_enter L.f34, BodyGt.n34_ntmps ρ
  go_wp2
  go_loopg [9] ((b - a - 1) / 2 + 1) (fun kx s9 wr => s9 = .int .i64 ((kx : Int) - 1) ∧ kx ≤ (b - a - 1) / 2 + 1 ∧ ∃ (dk : Array α), AtI B T w dk wr ∧ Hid (heapBuild lt (b - a) a kx dk = heapBuild lt (b - a) a ((b - a - 1) / 2 + 1) d))
  case atStart => exact ⟨by rw [half_start hab], Nat.le_refl _, d, H0, rfl⟩
  case round =>
    clear H0 hT
    obtain ⟨rfl, hkk, dk, H, HE⟩ := hrel
    skip
    cases gk with
    | zero =>
      have hB : Hid (dk = heapBuild lt (b - a) a ((b - a - 1) / 2 + 1) d) := HE.out
      clear HE hkk
      go_wp2
      go_loopg [10] (b - a) (fun kx s10 wr2 => s10 = .int .i64 ((kx : Int) - 1) ∧ kx ≤ b - a ∧ ∃ (dj : Array α), AtI B T w dj wr2 ∧ Hid (heapPop lt a kx dj = heapPop lt a (b - a) dk))
      case atStart => exact ⟨by rw [ecast], Nat.le_refl _, dk, H, rfl⟩
      case round =>
        skip
        clear H
        obtain ⟨rfl, hkk, dj, H, HE2⟩ := hrel
        skip
        cases gk with
        | zero =>
          go_wp2
          go_end0
          have e : dj = heapSort lt d a b := by rw [heapSort, ← hB.out, ← HE2.out]; rfl
          rw [← e]
          exact ⟨rfl, H.st, H.up⟩
        | succ kx =>
          have hs := H.swap F a (a + kx) (by omega) (by omega)
          rw [show ((a + kx : Nat) : Int) = (a : Int) + (kx : Int) by omega] at hs
          go_wp2_with (first | (go_at_fn gs; refine hs.mono ?_; rintro e w2 ⟨rfl, H2⟩) | (go_at_fn (ρ.f 43); have hcall := sift_any (ρ := ρ) { L with } lt B size T ty rv gl gs F 0 kx a (Nat.zero_le _) (by omega) (swp dj a (a + kx)) w2 H2.st; refine hcall.mono ?_; rintro e w3 ⟨rfl, hT3, hU3⟩))
          have H3 := H2.call hT3 hU3
          go_roundg kx
          case measure => omega
          case rel => exact ⟨by simp, by omega, siftDown lt kx a 0 (swp dj a (a + kx)), H3, HE2⟩
    | succ kx =>
      have hcall := sift_any (ρ := ρ) { L with } lt B size T ty rv gl gs F kx (b - a) a (by omega) (by omega) dk wr H.st
      rw [ecast] at hcall
      go_wp2_with (go_at_fn (ρ.f 43); refine hcall.mono ?_; rintro e w3 ⟨rfl, hT3, hU3⟩)
      have H3 := H.call hT3 hU3
      go_roundg kx
      case measure => omega
      case rel => exact ⟨by simp, by omega, siftDown lt (b - a) a kx dk, H3, HE⟩

end Go.Proofs.Ytpkkomifenlkaaa.St
