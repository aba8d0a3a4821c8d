/- The page's batch of messages: Due. -/
import Derived.Test.YtjjomlideieofaaBatchQ
namespace Go.Proofs.Ytjjomlideieofaa.Msg
open Go Go.RowKit

set_option maxHeartbeats 2000000 in
theorem qdue_any {w : World} {base g : Nat} {sz wt since now : Int} {v : Value} {ms : List M7} (h : Qt w base g sz wt v since ms) (h0 : 0 ≤ wt) (h1 : wt ≤ 8) (h2 : 0 ≤ since) (h3 : since < 18446744073709551616) (h4 : 0 ≤ now) (h5 : now < 18446744073709551616) :
    Calls Try.prog 32 #[.pointer (some ⟨g, 0, none⟩), .int .u64 now] w fun e w' => e = .returned (.bool (due sz wt since now ms.length)) ∧ ∃ q, w' = w.drewN q := by
  obtain ⟨A, c, rfl⟩ := own_formN h.2.2
  obtain ⟨c0, c1, c2, c3⟩ := h.cells
  clear h
  generalize ms.length = n at *
  by_cases hn : n = 0
  · subst hn
    go_enter Try.func32, Try.ntmps32
    go_wp2
    go_ret
    exact ⟨rfl, 0, rfl⟩
  · have hz : ((n : Int) == 0) = false := by rw [beq_eq_false_iff_ne]; omega
    have hww : IntKind.u64.wrap wt = wt := wrap_u64 (by omega) (by omega)
    by_cases hs : sz ≤ (n : Int)
    · have d0 : decide (sz ≤ (n : Int)) = true := decide_eq_true hs
      have hd := Lib.hid (show due sz wt since now n = true from decide_eq_true (by omega))
      clear h0 h1 h4 h5 hn
      go_enter Try.func32, Try.ntmps32
      go_wp2
      go_quiet (fail)
      go_wp2
      go_ret
      exact ⟨by rw [hd.out]; rfl, _, rfl⟩
    · have d0 : decide (sz ≤ (n : Int)) = false := decide_eq_false hs
      have hs2 : (n : Int) < sz := by omega
      by_cases hw : wt = 0
      · subst hw
        have hd := Lib.hid (show due sz 0 since now n = true from decide_eq_true (by omega))
        clear h0 h1 h4 h5 hn
        go_enter Try.func32, Try.ntmps32
        go_wp2
        go_quiet (fail)
        go_wp2
        go_ret
        exact ⟨by rw [hd.out]; rfl, _, rfl⟩
      · have hwz : (wt == 0) = false := by simpa using hw
        by_cases hmx : since < now
        · have hws : IntKind.u64.wrap (now - since) = now - since := wrap_u64 (by omega) (by omega)
          by_cases hwn : wt ≤ now - since
          · have d2 : decide (wt ≤ now - since) = true := decide_eq_true hwn
            have hd := Lib.hid (show due sz wt since now n = true from decide_eq_true (by omega))
            clear h0 h1 h4 h5 hn
            go_enter Try.func32, Try.ntmps32
            go_wp2
            go_quiet (fail)
            go_wp2
            go_quiet (fail)
            go_wp2
            go_ret
            exact ⟨by rw [hd.out]; rfl, _, World.drewN_drewN _ _ _⟩
          · have d2 : decide (wt ≤ now - since) = false := decide_eq_false hwn
            have hd := Lib.hid (show due sz wt since now n = false from decide_eq_false (by omega))
            clear h0 h1 h4 h5 hn
            go_enter Try.func32, Try.ntmps32
            go_wp2
            go_quiet (fail)
            go_wp2
            go_quiet (fail)
            go_wp2
            go_ret
            exact ⟨by rw [hd.out]; rfl, _, World.drewN_drewN _ _ _⟩
        · have hmx2 : now ≤ since := by omega
          have d3 : decide (since < now) = false := decide_eq_false hmx
          have hd := Lib.hid (show due sz wt since now n = false from decide_eq_false (by omega))
          clear h0 h1 h4 h5 hn
          go_enter Try.func32, Try.ntmps32
          go_wp2
          go_quiet (fail)
          go_wp2
          go_quiet (fail)
          go_wp2
          go_ret
          exact ⟨by rw [hd.out]; rfl, _, World.drewN_drewN _ _ _⟩
end Go.Proofs.Ytjjomlideieofaa.Msg
