/- partitionEqual, func -/
import Derived.Test.YtlpnecmcncekcaaGreatStBase
import Derived.Shelf.GgSortFunc.Slice
import Derived.Deep.LoopGhost
import Derived.WalkKit
import Derived.BigCall
import Derived.BigGuard
import Derived.Sort.WalkC
namespace Go.Proofs.YtlpnecmcncekcaaGreat.St
open Go Go.RowKit Go.Shelf Go.Lib Go.Sort Go.Proofs
variable {P : Program} {ρ : Ren} {α : Type} [Inhabited α]

set_option maxHeartbeats 12800000 in
set_option maxRecDepth 1000000 in
theorem peq_any (L : LaysGg.n32 P ρ) (lt : α → α → Bool) (B size : Nat) (T : Array α → World → Prop) (g : Nat) (lb : Array Value) (sf : Nat) (sb : Array Value) (F : FuncFam P lt B size T g lb sf sb) (a b pivot : Nat) (hap : a ≤ pivot) (hpb : pivot < b) (hb : b ≤ size) (d : Array α) (w : World) (hT : T d w) :
    Calls P (ρ.f 32) #[.agg #[.func (.func g) #[] lb, .func (.func sf) #[] sb], .int .i64 a, .int .i64 b, .int .i64 pivot] w fun e w' => e = .returned (.int .i64 (Sort.partitionEqual lt d a b pivot).1) ∧ T ((Sort.partitionEqual lt d a b pivot).2) w' ∧ Up B w w' := by
  have mixed := L.mixed; have t0 := L.t0; have a0 := L.a0; have z0 := L.z0; have v0 := L.v0; have t3 := L.t3; have a3 := L.a3; have z3 := L.z3
  have v3 := L.v3; have t4 := L.t4; have a4 := L.a4; have z4 := L.z4; have v4 := L.v4; have t26 := L.t26; have a26 := L.a26; have z26 := L.z26
  have v26 := L.v26; have t37 := L.t37; have a37 := L.a37; have z37 := L.z37; have v37 := L.v37; have t44 := L.t44; have a44 := L.a44; have z44 := L.z44
  have v44 := L.v44
  have u44 := run_underlying L.t44
  have eg := F.eg
  have H0 := F.start hT (ρ.t 44)
  have hsz := F.small
  have hds := F.play.size hT
  obtain ⟨w1, hs0, H1⟩ := H0.swap F a pivot (by omega) (by omega)
  go_enter L.f32, BodyGg.n32_ntmps ρ
  go_wp2
  go_loopw [9, 10] (fun vi vj wr => ∃ (i j : Nat) (dk : Array α), vi = .int .i64 i ∧ vj = .int .i64 j ∧ a < i ∧ i ≤ j + 1 ∧ j < b ∧ AtF B T g lb sf sb w w.heap.size dk wr ∧ Hid (Sort.partEqLoop lt a i j dk = Sort.partEqLoop lt a (a + 1) (b - 1) (Sort.swp d a pivot))) (fun vi vj _ => (RowKit.intOf vj).toNat + 1 - (RowKit.intOf vi).toNat)
  case atStart => exact ⟨a + 1, b - 1, Sort.swp d a pivot, by go_num, by go_num, by omega, by omega, by omega, H1, rfl⟩
  case round =>
    clear hs0 H1 H0 hT
    obtain ⟨i, j, dk, rfl, rfl, hai, hij, hjb, H, AE⟩ := hrel
    have c0 := H.c0; have c1 := H.c1
    go_wp2
    go_loopw [9] (fun vi w1 => ∃ (i' : Nat), vi = .int .i64 i' ∧ i ≤ i' ∧ i' ≤ j + 1 ∧ AtF B T g lb sf sb w w.heap.size dk w1 ∧ Hid (Sort.scanUp (fun x => !lt dk[a]! x) dk j i' = Sort.scanUp (fun x => !lt dk[a]! x) dk j i)) (fun vi _ => j + 1 - (RowKit.intOf vi).toNat)
    case atStart => exact ⟨i, rfl, Nat.le_refl _, hij, H, rfl⟩
    case round =>
      clear H c0 c1
      obtain ⟨i', rfl, hii, hij', H, hsc⟩ := hrel
      have c0 := H.c0; have c1 := H.c1
      by_cases hle : i' ≤ j
      · cases hlv : lt dk[a]! dk[i']! with
        | false =>
          have hl := H.less F a i' false (by omega) (by omega) hlv
          go_wp2_with (go_at_fn g; refine hl.mono ?_; rintro e w3 ⟨rfl, H1⟩)
          go_roundw
          case rel => exact ⟨i' + 1, by go_num, by omega, by omega, H1, (show Hid _ from (scanUp_go (fun x => !lt dk[a]! x) dk j i' hle (by simp [hlv])).symm.trans hsc.out)⟩
          case measure => simp [RowKit.intOf]; omega
        | true =>
          have hl := H.less F a i' true (by omega) (by omega) hlv
          have hi2 : Hid (i' = Sort.scanUp (fun x => !lt dk[a]! x) dk j i) := (scanUp_end (fun x => !lt dk[a]! x) dk j i' (Or.inr (by simp [hlv]))).symm.trans hsc.out
          go_wp2_with (go_at_fn g; refine hl.mono ?_; rintro e w3 ⟨rfl, H1⟩)
          clear hl hsc H c0 c1
          go_loopw [10] (fun vj w2 => ∃ (j' : Nat), vj = .int .i64 j' ∧ j' ≤ j ∧ i' ≤ j' + 1 ∧ AtF B T g lb sf sb w w.heap.size dk w2 ∧ Hid (Sort.scanDown (fun x => lt dk[a]! x) dk i' j' = Sort.scanDown (fun x => lt dk[a]! x) dk i' j)) (fun vj _ => (RowKit.intOf vj).toNat)
          case atStart => exact ⟨j, rfl, Nat.le_refl _, hij', H1, rfl⟩
          case round =>
            clear H1
            obtain ⟨j', rfl, hjj, hij2, H, hsd⟩ := hrel
            have c0 := H.c0; have c1 := H.c1
            by_cases hle2 : i' ≤ j'
            · cases hlv2 : lt dk[a]! dk[j']! with
              | true =>
                have hl := H.less F a j' true (by omega) (by omega) hlv2
                go_wp2_with (go_at_fn g; refine hl.mono ?_; rintro e w3 ⟨rfl, H1⟩)
                go_roundw
                case rel => exact ⟨j' - 1, by go_num, by omega, by omega, H1, (show Hid _ from (scanDown_go (fun x => lt dk[a]! x) dk i' j' hle2 (by omega) (by simp [hlv2])).symm.trans hsd.out)⟩
                case measure => simp [RowKit.intOf]; omega
              | false =>
                have hl := H.less F a j' false (by omega) (by omega) hlv2
                have hj2 : Hid (j' = Sort.scanDown (fun x => lt dk[a]! x) dk i' j) := (scanDown_end (fun x => lt dk[a]! x) dk i' j' (Or.inr (by simp [hlv2]))).symm.trans hsd.out
                have hlt3 := scans_lt lt a i j dk (by omega) hi2.out hj2.out hle2
                clear hsd
                go_wp2_with (go_at_fn g; refine hl.mono ?_; rintro e w3 ⟨rfl, H1⟩; have d1 := H1.c1; obtain ⟨w4, hs, H2⟩ := H1.swap F i' j' (by omega) (by omega))
                go_roundw
                case rel => exact ⟨i' + 1, j' - 1, Sort.swp dk i' j', by go_num, by go_num, by omega, by omega, by omega, H2, (show Hid _ from by rw [← AE.out]; exact (partEq_go lt a i j dk hi2.out hj2.out (by omega)).symm)⟩
                case measure => simp [RowKit.intOf]; omega
            · have hj2 : Hid (j' = Sort.scanDown (fun x => lt dk[a]! x) dk i' j) := (scanDown_end (fun x => lt dk[a]! x) dk i' j' (Or.inl hle2)).symm.trans hsd.out
              clear hsd
              go_wp2
              go_ret
              have e := partEq_break lt a i j dk hi2.out hj2.out (by omega)
              exact ⟨by unfold Sort.partitionEqual; rw [← AE.out, e]; rfl, by unfold Sort.partitionEqual; rw [← AE.out, e]; exact H.st, H.up⟩
      · have hi2 : Hid (i' = Sort.scanUp (fun x => !lt dk[a]! x) dk j i) := (scanUp_end (fun x => !lt dk[a]! x) dk j i' (Or.inl hle)).symm.trans hsc.out
        go_wp2
        clear hsc c0 c1
        go_loopw [10] (fun vj w2 => ∃ (j' : Nat), vj = .int .i64 j' ∧ j' ≤ j ∧ i' ≤ j' + 1 ∧ AtF B T g lb sf sb w w.heap.size dk w2 ∧ Hid (Sort.scanDown (fun x => lt dk[a]! x) dk i' j' = Sort.scanDown (fun x => lt dk[a]! x) dk i' j)) (fun vj _ => (RowKit.intOf vj).toNat)
        case atStart => exact ⟨j, rfl, Nat.le_refl _, hij', H, rfl⟩
        case round =>
          clear H
          obtain ⟨j', rfl, hjj, hij2, H, hsd⟩ := hrel
          have c0 := H.c0; have c1 := H.c1
          by_cases hle2 : i' ≤ j'
          · exfalso; omega
          · have hj2 : Hid (j' = Sort.scanDown (fun x => lt dk[a]! x) dk i' j) := (scanDown_end (fun x => lt dk[a]! x) dk i' j' (Or.inl hle2)).symm.trans hsd.out
            clear hsd
            go_wp2
            go_ret
            have e := partEq_break lt a i j dk hi2.out hj2.out (by omega)
            exact ⟨by unfold Sort.partitionEqual; rw [← AE.out, e]; rfl, by unfold Sort.partitionEqual; rw [← AE.out, e]; exact H.st, H.up⟩

end Go.Proofs.YtlpnecmcncekcaaGreat.St
