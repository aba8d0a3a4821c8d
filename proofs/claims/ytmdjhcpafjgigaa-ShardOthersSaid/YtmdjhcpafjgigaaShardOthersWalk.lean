/- 'ShardOthers': its arguments opened. -/
import Derived.Test.YtmdjhcpafjgigaaShardOthers
namespace Go.Proofs.Ytmdjhcpafjgigaa.shardOthers
open Go Go.RowKit Mk

set_option maxRecDepth 20000 in
theorem law_long (rm : Int) (A : Option Addr) (len cap : Nat) (W : World) (h : 100 < len) (hl : len ≤ 9223372036854775807) :
    Calls Try.prog 4 #[.int .u8 rm, .slice A len cap] W fun e w' => e = .returned (.bool true) ∧ Below W.heap.size W w' := by
  have hz : (100 : Int) < (len : Int) := by omega
  have hawk := Lib.hid (awake_any W)
  go_enter Try.func4, Try.ntmps4
  go_wp2_with (refine hawk.out.mono ?_; rintro _ w9 ⟨rfl, b9⟩)
  go_ret
  exact ⟨rfl, b9⟩
set_option maxRecDepth 100000 in
theorem walk {H : Type} {enc : TypeId × Value → H} {spare : Nat → Bool} {held : Bool} {w : World} {base : Nat} {v : Value} {d : DataW H} {p : List MemPlace} (rm : Int) (hw : (Lit.int .u8 rm).wf = true)
    (ok : Value.okWide Try.prog w .any base 22 v) (h : DataW.Trod enc Try.prog w 0 spare held 22 v d p) :
    Calls Try.prog 4 #[.int .u8 rm, v] w fun e w' => e = .returned (.bool true) ∧ Below w.heap.size w w' := by
  obtain ⟨A, len, cap, qs, rfl, hl, hr⟩ := open_acts ok h
  unfold maxLen at hl
  have hb : 0 ≤ rm ∧ rm ≤ 255 := by
    simp [Lit.wf, IntKind.min, IntKind.max, IntKind.bits, IntKind.signed] at hw
    omega
  by_cases h1 : 100 < len
  · exact law_long rm A len cap w h1 (by omega)
  · exact law_others rm hb.1 hb.2 A len cap qs w hr (by omega)
end Go.Proofs.Ytmdjhcpafjgigaa.shardOthers
