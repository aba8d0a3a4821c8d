/- The law ShaPads, walked. -/
import Derived.Test.YtakognijadaniaaDoorShaAwake
import Derived.Test.YtakognijadaniaaDoorShaRPad
namespace Go.Proofs.YtakognijadaniaaDoor.Sha
open Go Go.RowKit

set_option maxRecDepth 100000 in
theorem pad_bad (n : Int) (h : n < 0 ∨ 1152921504606846976 < n) (w : World) :
    Calls Tryd.prog 14 #[.int .i64 n] w fun e w' => e = .returned (.string ⟨#[]⟩) ∧ w' = w := by
  rcases h with h | h
  · go_enter Tryd.func14, Tryd.ntmps14
    go_wp2
    go_ret
    exact ⟨rfl, rfl⟩
  · have h' : ¬ n < 0 := by omega
    go_enter Tryd.func14, Tryd.ntmps14
    go_wp2
    go_ret
    exact ⟨rfl, rfl⟩

set_option maxRecDepth 100000 in
set_option maxHeartbeats 600000 in
theorem pads_any (n : Int) (w : World) (hg : Tab w) :
    Calls Tryd.prog 5 #[.int .i64 n] w fun e w' => e = .returned (.bool true) ∧ Below w.heap.size w w' := by
  have HG := Lib.hid hg
  clear hg
  by_cases hbad : n < 0 ∨ 1152921504606846976 < n
  · have HP := Lib.hid (pad_bad n hbad w)
    have HA := Lib.hid (awake_any w HG.out)
    rcases hbad with h | h
    · go_enter Tryd.func5, Tryd.ntmps5
      go_wp2_with (first | (go_at_call 14; refine HP.out.mono ?_; rintro e w' ⟨rfl, rfl⟩) | (go_at_call 7; refine HA.out.mono ?_; rintro e w2 ⟨rfl, hb2⟩))
      go_ret
      exact ⟨rfl, hb2⟩
    · have h' : ¬ n < 0 := by omega
      go_enter Tryd.func5, Tryd.ntmps5
      go_wp2_with (first | (go_at_call 14; refine HP.out.mono ?_; rintro e w' ⟨rfl, rfl⟩) | (go_at_call 7; refine HA.out.mono ?_; rintro e w2 ⟨rfl, hb2⟩))
      go_ret
      exact ⟨rfl, hb2⟩
  · obtain ⟨m, rfl⟩ : ∃ m : Nat, n = (m : Int) := ⟨n.toNat, by omega⟩
    have hm : m ≤ 1152921504606846976 := by omega
    have hm1 : (m : Int) ≤ 1152921504606846976 := by omega
    have hps := padS_size m
    have hno : noughts m = (119 - m % 64) % 64 := rfl
    have hsz : ((padS m).size : Int) ≤ 72 := by omega
    have hmod : ((m : Int) % 64 + ((padS m).size : Int)) % 64 = 0 := by omega
    have HP := Lib.hid (pad_any m hm w)
    have HR := Lib.hid (fun W => rpad_any m hm W)
    clear hps hno hbad
    generalize padS m = S at *
    have HMod := Lib.hid hmod
    go_enter Tryd.func5, Tryd.ntmps5
    go_wp2_with (first | (go_at_call 14; refine HP.out.mono ?_; rintro e w1 ⟨rfl, hb1⟩; have HB1 := Lib.hid hb1; clear hb1) | (go_at_call 7; refine (awake_any w1 (tab_below HG.out HB1.out)).mono ?_; rintro e w2 ⟨rfl, hb2⟩; have HB2 := Lib.hid (HB1.out.trans (hb2.mono HB1.out.size)); clear hb2) | (go_at_call 15; refine (HR.out _).mono ?_; rintro e w3 ⟨rfl, hb3⟩; have HB3 := Lib.hid (HB2.out.trans (hb3.mono HB2.out.size)); clear hb3))
    go_ret
    exact ⟨rfl, HB3.out⟩
end Go.Proofs.YtakognijadaniaaDoor.Sha
namespace Go.Proofs.YtakognijadaniaaDoor.Sha
open Go Go.RowKit
theorem pads_walk (a0 : Int) (_w0 : (Lit.int .i64 a0).wf = true) (w : World) (hg : Tab w) :
    Calls Tryd.prog 5 #[.int .i64 a0] w fun e w' => e = .returned (.bool true) ∧ Below w.heap.size w w' := pads_any a0 w hg
end Go.Proofs.YtakognijadaniaaDoor.Sha
