/-
  No cell of these rows narrows 'for every input' (looked for: loops, veiled, ifaces, maps, wideKeys, modest, calm, conditions, laid).
  DERIVED. THE GIVEN ROWS OF THIS SEAT. 3 by the template 'for every input the law returns true; each argument reads behind the call as it read before'; 0 by the template 'total and deterministic' (their statements: YtlgbendncgboiaaTotals.lean).
  GIVEN WITH THE SEED: the statements are not yours to turn. If you find one false, say at which input.
  Laid BY PROGRAM, IN A SANDBOX (cutbox-rows.mjs): the forced cells as the released guide's own fill.sh prints them over the translation 6bf35d1f09ddff59… (all of the seat's roots in one cut). By AI agents, Wed Nov 11 2026. No macro, syntax, notation, axiom, sorry.
-/
import Derived.Test.YtlgbendncgboiaaChecked
import GoSem.Claim
import GoSem.ClaimJoined
import GoSem.ClaimMapViews
import Derived.JoinedTies
import Derived.KernelRfl
namespace Go.Proofs.Ytlgbendncgboiaa
/- THE CELL 'sum', in the pinned program and in every row, IS THE sha256 OF THE DUMP (.gsa) THAT YtlgbendncgboiaaProg.lean LOADS. Nothing in Lean hashes anything: it is a label: what it is worth is what the hold of that sum in a sandbox is worth. -/
noncomputable def Try.pinned : Pinned := { name := "ytlgbendncgboiaa", sum := "6bf35d1f09ddff5979d449d2e592ec32be8df7ccbac3861ada9edacd7cb49a13", checked := Try.checked }
namespace Rows
def none {H : Type} : Left H := { results := [], args := [] }

/-- 'muleteerlaw23.GapPlays': WHATEVER THE INPUT: true; the input reads as it did. -/
def gapPlaysSpec : ChangeSpec := { name := "gapPlays", fn := fun _ => fun
  | [d] => { results := [.lit (.bool true)], args := [d] }
  | _ => none }
def gapPlaysRow : OpenClaim := { program := "ytlgbendncgboiaa", sum := "6bf35d1f09ddff5979d449d2e592ec32be8df7ccbac3861ada9edacd7cb49a13", func := "muleteer/muleteerlaw23.GapPlays", spec := "gapPlays", unfollowed := true, recurses := true, apart := false }
def GapPlaysSaid : Prop := gapPlaysRow.holds Try.pinned (OpenSpec.ofChange gapPlaysSpec)

/-- ITS FALSE NEIGHBOUR: 'it returns false'. Refute it at one input. -/
def gapPlaysWrong : ChangeSpec := { name := "gapPlays", fn := fun _ => fun
  | [d] => { results := [.lit (.bool false)], args := [d] }
  | _ => none }
def GapPlaysWrongFalsely : Prop := gapPlaysRow.holds Try.pinned (OpenSpec.ofChange gapPlaysWrong)

/-- 'muleteerlaw23.GapOrder': WHATEVER THE INPUT: true; the input reads as it did. -/
def gapOrderSpec : ChangeSpec := { name := "gapOrder", fn := fun _ => fun
  | [d1, d2] => { results := [.lit (.bool true)], args := [d1, d2] }
  | _ => none }
def gapOrderRow : OpenClaim := { program := "ytlgbendncgboiaa", sum := "6bf35d1f09ddff5979d449d2e592ec32be8df7ccbac3861ada9edacd7cb49a13", func := "muleteer/muleteerlaw23.GapOrder", spec := "gapOrder", unfollowed := true, recurses := true, apart := false }
def GapOrderSaid : Prop := gapOrderRow.holds Try.pinned (OpenSpec.ofChange gapOrderSpec)

/-- ITS FALSE NEIGHBOUR: 'it returns false'. Refute it at one input. -/
def gapOrderWrong : ChangeSpec := { name := "gapOrder", fn := fun _ => fun
  | [d1, d2] => { results := [.lit (.bool false)], args := [d1, d2] }
  | _ => none }
def GapOrderWrongFalsely : Prop := gapOrderRow.holds Try.pinned (OpenSpec.ofChange gapOrderWrong)

/-- 'muleteerlaw23.GapAll': WHATEVER THE INPUT: true; the input reads as it did. -/
def gapAllSpec : ChangeSpec := { name := "gapAll", fn := fun _ => fun
  | [d1, d2] => { results := [.lit (.bool true)], args := [d1, d2] }
  | _ => none }
def gapAllRow : OpenClaim := { program := "ytlgbendncgboiaa", sum := "6bf35d1f09ddff5979d449d2e592ec32be8df7ccbac3861ada9edacd7cb49a13", func := "muleteer/muleteerlaw23.GapAll", spec := "gapAll", unfollowed := true, recurses := true, apart := false }
def GapAllSaid : Prop := gapAllRow.holds Try.pinned (OpenSpec.ofChange gapAllSpec)

/-- ITS FALSE NEIGHBOUR: 'it returns false'. Refute it at one input. -/
def gapAllWrong : ChangeSpec := { name := "gapAll", fn := fun _ => fun
  | [d1, d2] => { results := [.lit (.bool false)], args := [d1, d2] }
  | _ => none }
def GapAllWrongFalsely : Prop := gapAllRow.holds Try.pinned (OpenSpec.ofChange gapAllWrong)

/- THE SECOND FORM. 'bulk': how many values and letters a reading holds, each counted each time it is reached (what is shared counts as often as it is met; a slice's spare places count too). A statement '..UptoSaid' is the law's where the arguments, and the package variables that the reading takes, are together of bulk at most 1048576: NARROWER than '..Said'. Prove '..Said' where nothing that the law and all that it calls make is longer than what came in: it says more and counts as full. Else prove '..UptoSaid'. A law counts once. -/
mutual
def uptoBulk {H : Type} : DataW H → Nat
  | .lit (.string bytes) => bytes.length + 1
  | .lit _ => 1
  | .nil => 1
  | .ptr d => uptoBulk d + 1
  | .slice elems spare => uptoBulkAll elems + uptoBulkAll spare + 1
  | .agg parts => uptoBulkAll parts + 1
  | .iface _ d => uptoBulk d + 1
  | .map entries => uptoBulkEntries entries + 1
  | .held _ => 1
def uptoBulkAll {H : Type} : List (DataW H) → Nat
  | [] => 0
  | d :: r => uptoBulk d + uptoBulkAll r
def uptoBulkEntries {H : Type} : List (Lit × DataW H) → Nat
  | [] => 0
  | x :: r => uptoBulkEntry x + uptoBulkEntries r
def uptoBulkEntry {H : Type} : Lit × DataW H → Nat
  | (.string bytes, d) => bytes.length + uptoBulk d + 1
  | (_, d) => uptoBulk d + 1
 end
def uptoSmall : (H : Type) → List (DataW H) → Bool := fun _ ds => decide (uptoBulkAll ds ≤ 1048576)
def OpenSpec.upto (s : _root_.Go.ChangeSpec) : _root_.Go.OpenSpec := { _root_.Go.OpenSpec.ofChange s with cond := some uptoSmall }

/-- 'muleteerlaw23.GapPlays', WHERE WHAT IT READS IS OF BULK AT MOST 1048576: true; the input reads as it did. -/
def gapPlaysUptoRow : OpenClaim := { program := "ytlgbendncgboiaa", sum := "6bf35d1f09ddff5979d449d2e592ec32be8df7ccbac3861ada9edacd7cb49a13", func := "muleteer/muleteerlaw23.GapPlays", spec := "gapPlays", unfollowed := true, recurses := true, apart := false, narrowed := true }
def GapPlaysUptoSaid : Prop := gapPlaysUptoRow.holds Try.pinned (OpenSpec.upto gapPlaysSpec)

/-- 'muleteerlaw23.GapOrder', WHERE WHAT IT READS IS OF BULK AT MOST 1048576: true; the input reads as it did. -/
def gapOrderUptoRow : OpenClaim := { program := "ytlgbendncgboiaa", sum := "6bf35d1f09ddff5979d449d2e592ec32be8df7ccbac3861ada9edacd7cb49a13", func := "muleteer/muleteerlaw23.GapOrder", spec := "gapOrder", unfollowed := true, recurses := true, apart := false, narrowed := true }
def GapOrderUptoSaid : Prop := gapOrderUptoRow.holds Try.pinned (OpenSpec.upto gapOrderSpec)

/-- 'muleteerlaw23.GapAll', WHERE WHAT IT READS IS OF BULK AT MOST 1048576: true; the input reads as it did. -/
def gapAllUptoRow : OpenClaim := { program := "ytlgbendncgboiaa", sum := "6bf35d1f09ddff5979d449d2e592ec32be8df7ccbac3861ada9edacd7cb49a13", func := "muleteer/muleteerlaw23.GapAll", spec := "gapAll", unfollowed := true, recurses := true, apart := false, narrowed := true }
def GapAllUptoSaid : Prop := gapAllUptoRow.holds Try.pinned (OpenSpec.upto gapAllSpec)

end Rows
end Go.Proofs.Ytlgbendncgboiaa
