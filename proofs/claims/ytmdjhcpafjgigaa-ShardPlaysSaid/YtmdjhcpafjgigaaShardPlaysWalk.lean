/- 'ShardPlays': its arguments opened. -/
import Derived.Test.YtmdjhcpafjgigaaShardPlays
namespace Go.Proofs.Ytmdjhcpafjgigaa.shardPlays
open Go Go.RowKit Mk

set_option maxRecDepth 20000 in
theorem law_long (room : Int) (A : Option Addr) (len cap : Nat) (W : World) (h : 100 < len) (hl : len ≤ 9223372036854775807) :
    Calls Try.prog 3 #[.int .i64 room, .slice A len cap] W fun e w' => e = .returned (.bool true) ∧ Below W.heap.size W w' := by
  have hz : (100 : Int) < (len : Int) := by omega
  have hawk := Lib.hid (awake_any W)
  go_enter Try.func3, Try.ntmps3
  go_wp2_with (refine hawk.out.mono ?_; rintro _ w9 ⟨rfl, b9⟩)
  go_ret
  exact ⟨rfl, b9⟩
set_option maxRecDepth 20000 in
theorem law_bad (room : Int) (A : Option Addr) (len cap : Nat) (W : World) (h : len ≤ 100) (hr : room < 1 ∨ 64 < room) :
    Calls Try.prog 3 #[.int .i64 room, .slice A len cap] W fun e w' => e = .returned (.bool true) ∧ Below W.heap.size W w' := by
  have hz : ¬ (100 : Int) < (len : Int) := by omega
  have hawk := Lib.hid (awake_any W)
  have hno := Lib.hid (snew_no room W hr)
  by_cases h1 : room < 1
  · clear hr
    go_enter Try.func3, Try.ntmps3
    go_wp2_with fail
    refine hno.out.mono ?_
    rintro _ w1 ⟨rfl, rfl⟩
    go_wp2_with fail
    refine hawk.out.mono ?_
    rintro _ w9 ⟨rfl, b9⟩
    go_wp2
    go_ret
    exact ⟨rfl, b9⟩
  · have h2 : (64 : Int) < room := by omega
    clear hr
    go_enter Try.func3, Try.ntmps3
    go_wp2_with fail
    refine hno.out.mono ?_
    rintro _ w1 ⟨rfl, rfl⟩
    go_wp2_with fail
    refine hawk.out.mono ?_
    rintro _ w9 ⟨rfl, b9⟩
    go_wp2
    go_ret
    exact ⟨rfl, b9⟩
set_option maxRecDepth 100000 in
theorem walk {H : Type} {enc : TypeId × Value → H} {spare : Nat → Bool} {held : Bool} {w : World} {base : Nat} {v : Value} {d : DataW H} {p : List MemPlace} (room : Int) (_ : (Lit.int .i64 room).wf = true)
    (ok : Value.okWide Try.prog w .any base 22 v) (h : DataW.Trod enc Try.prog w 0 spare held 22 v d p) :
    Calls Try.prog 3 #[.int .i64 room, v] w fun e w' => e = .returned (.bool true) ∧ Below w.heap.size w w' := by
  obtain ⟨A, len, cap, qs, rfl, hl, hr⟩ := open_acts ok h
  unfold maxLen at hl
  by_cases h1 : 100 < len
  · exact law_long room A len cap w h1 (by omega)
  · by_cases h2 : room < 1 ∨ 64 < room
    · exact law_bad room A len cap w (by omega) h2
    · exact law_plays room (by omega) (by omega) A len cap qs w hr (by omega)
end Go.Proofs.Ytmdjhcpafjgigaa.shardPlays
