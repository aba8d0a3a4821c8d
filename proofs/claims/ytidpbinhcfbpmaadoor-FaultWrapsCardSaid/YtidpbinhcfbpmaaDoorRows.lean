/-
  NARROWER THAN 'FOR EVERY INPUT', by the rows' own cells (each row's printed sentence says how): OutcomeOf: laid · OutcomeWraps: laid · OutcomeTells: laid · FaultWraps: laid.
  DERIVED. THE GIVEN ROWS OF THIS SEAT. 4 by the template 'for every input the law returns true; each argument reads behind the call as it read before'; 0 by the template 'total and deterministic' (their statements: YtidpbinhcfbpmaaDoorTotals.lean).
  GIVEN WITH THE SEED: the statements are not yours to turn. If you find one false, say at which input.
  Laid BY PROGRAM, IN A SANDBOX (cutbox-rows.mjs): the forced cells as the released guide's own fill.sh prints them over the translation b47f51bef25042f1… (all of the seat's roots in one cut). By AI agents, Wed Nov 11 2026. No macro, syntax, notation, axiom, sorry.
-/
import Derived.Test.YtidpbinhcfbpmaaDoorChecked
import GoSem.Claim
import GoSem.ClaimJoined
import GoSem.ClaimMapViews
import Derived.JoinedTies
import Derived.KernelRfl
namespace Go.Proofs.YtidpbinhcfbpmaaDoor
/- THE CELL 'sum', in the pinned program and in every row, IS THE sha256 OF THE DUMP (.gsa) THAT YtidpbinhcfbpmaaDoorProg.lean LOADS. Nothing in Lean hashes anything: it is a label: what it is worth is what the hold of that sum in a sandbox is worth. -/
noncomputable def Tryd.pinned : Pinned := { name := "ytidpbinhcfbpmaadoor", sum := "b47f51bef25042f1d78a428aadb86b1afe9c379080b1fbad01d104f9c3475f5c", checked := Tryd.checked }
namespace Rows
def none {H : Type} : Left H := { results := [], args := [] }

/- WHAT THE LISTED PACKAGE-LEVEL VARIABLES READ AS WHEN THE CALL BEGINS. Each datum BY PROGRAM (the guide's laid-datum.mjs) off the statement by which the dump's own 'gosem.cut.vars' lays the variable. In a bare row this is a premise. The card (YtidpbinhcfbpmaaDoorCards.lean) ties it to the program's text. -/
def laid_errors_errorType {H : Type} : DataW H := .iface "internal/reflectlite.rtype" (.agg [.ptr (.lit (.string [101, 114, 114, 111, 114]))])

/-- 'muleteerlaw28.OutcomeOf': WHATEVER THE INPUT: true; the input reads as it did. -/
def outcomeOfSpec : ChangeSpec := { name := "outcomeOf", fn := fun _ => fun
  | [d1, d2] => { results := [.lit (.bool true)], args := [d1, d2] }
  | _ => none }
def outcomeOfRow : OpenClaim := { program := "ytidpbinhcfbpmaadoor", sum := "b47f51bef25042f1d78a428aadb86b1afe9c379080b1fbad01d104f9c3475f5c", func := "muleteer/muleteerlaw28.OutcomeOf", spec := "outcomeOf", inPlace := ["internal/reflectlite.ValueOf", "(internal/reflectlite.Value).Type", "(internal/reflectlite.Value).IsNil", "internal/reflectlite.TypeOf", "(internal/reflectlite.Value).Elem", "(internal/reflectlite.Value).Set"], unfollowed := true, recurses := true, named := ["errors.errorType"], apart := false, laid := [("errors.errorType", laid_errors_errorType)] }
def OutcomeOfSaid : Prop := outcomeOfRow.holds Tryd.pinned (OpenSpec.ofChange outcomeOfSpec)

/-- ITS FALSE NEIGHBOUR: 'it returns false'. Refute it at one input. -/
def outcomeOfWrong : ChangeSpec := { name := "outcomeOf", fn := fun _ => fun
  | [d1, d2] => { results := [.lit (.bool false)], args := [d1, d2] }
  | _ => none }
def OutcomeOfWrongFalsely : Prop := outcomeOfRow.holds Tryd.pinned (OpenSpec.ofChange outcomeOfWrong)

/-- 'muleteerlaw28.OutcomeWraps': WHATEVER THE INPUT: true; the input reads as it did. -/
def outcomeWrapsSpec : ChangeSpec := { name := "outcomeWraps", fn := fun _ => fun
  | [d1, d2, d3] => { results := [.lit (.bool true)], args := [d1, d2, d3] }
  | _ => none }
def outcomeWrapsRow : OpenClaim := { program := "ytidpbinhcfbpmaadoor", sum := "b47f51bef25042f1d78a428aadb86b1afe9c379080b1fbad01d104f9c3475f5c", func := "muleteer/muleteerlaw28.OutcomeWraps", spec := "outcomeWraps", inPlace := ["internal/reflectlite.ValueOf", "(internal/reflectlite.Value).Type", "(internal/reflectlite.Value).IsNil", "internal/reflectlite.TypeOf", "(internal/reflectlite.Value).Elem", "(internal/reflectlite.Value).Set"], unfollowed := true, recurses := true, named := ["errors.errorType"], apart := false, laid := [("errors.errorType", laid_errors_errorType)] }
def OutcomeWrapsSaid : Prop := outcomeWrapsRow.holds Tryd.pinned (OpenSpec.ofChange outcomeWrapsSpec)

/-- ITS FALSE NEIGHBOUR: 'it returns false'. Refute it at one input. -/
def outcomeWrapsWrong : ChangeSpec := { name := "outcomeWraps", fn := fun _ => fun
  | [d1, d2, d3] => { results := [.lit (.bool false)], args := [d1, d2, d3] }
  | _ => none }
def OutcomeWrapsWrongFalsely : Prop := outcomeWrapsRow.holds Tryd.pinned (OpenSpec.ofChange outcomeWrapsWrong)

/-- 'muleteerlaw28.OutcomeTells': WHATEVER THE INPUT: true; the input reads as it did. -/
def outcomeTellsSpec : ChangeSpec := { name := "outcomeTells", fn := fun _ => fun
  | [d1, d2] => { results := [.lit (.bool true)], args := [d1, d2] }
  | _ => none }
def outcomeTellsRow : OpenClaim := { program := "ytidpbinhcfbpmaadoor", sum := "b47f51bef25042f1d78a428aadb86b1afe9c379080b1fbad01d104f9c3475f5c", func := "muleteer/muleteerlaw28.OutcomeTells", spec := "outcomeTells", inPlace := ["internal/reflectlite.ValueOf", "(internal/reflectlite.Value).Type", "(internal/reflectlite.Value).IsNil", "internal/reflectlite.TypeOf", "(internal/reflectlite.Value).Elem", "(internal/reflectlite.Value).Set"], unfollowed := true, recurses := true, named := ["errors.errorType"], apart := false, laid := [("errors.errorType", laid_errors_errorType)] }
def OutcomeTellsSaid : Prop := outcomeTellsRow.holds Tryd.pinned (OpenSpec.ofChange outcomeTellsSpec)

/-- ITS FALSE NEIGHBOUR: 'it returns false'. Refute it at one input. -/
def outcomeTellsWrong : ChangeSpec := { name := "outcomeTells", fn := fun _ => fun
  | [d1, d2] => { results := [.lit (.bool false)], args := [d1, d2] }
  | _ => none }
def OutcomeTellsWrongFalsely : Prop := outcomeTellsRow.holds Tryd.pinned (OpenSpec.ofChange outcomeTellsWrong)

/-- 'muleteerlaw08.FaultWraps': WHATEVER THE INPUT: true; the input reads as it did. -/
def faultWrapsSpec : ChangeSpec := { name := "faultWraps", fn := fun _ => fun
  | [d1, d2, d3] => { results := [.lit (.bool true)], args := [d1, d2, d3] }
  | _ => none }
def faultWrapsRow : OpenClaim := { program := "ytidpbinhcfbpmaadoor", sum := "b47f51bef25042f1d78a428aadb86b1afe9c379080b1fbad01d104f9c3475f5c", func := "muleteer/muleteerlaw08.FaultWraps", spec := "faultWraps", inPlace := ["internal/reflectlite.ValueOf", "(internal/reflectlite.Value).Type", "(internal/reflectlite.Value).IsNil", "internal/reflectlite.TypeOf", "(internal/reflectlite.Value).Elem", "(internal/reflectlite.Value).Set"], unfollowed := true, recurses := true, named := ["errors.errorType"], apart := false, laid := [("errors.errorType", laid_errors_errorType)] }
def FaultWrapsSaid : Prop := faultWrapsRow.holds Tryd.pinned (OpenSpec.ofChange faultWrapsSpec)

/-- ITS FALSE NEIGHBOUR: 'it returns false'. Refute it at one input. -/
def faultWrapsWrong : ChangeSpec := { name := "faultWraps", fn := fun _ => fun
  | [d1, d2, d3] => { results := [.lit (.bool false)], args := [d1, d2, d3] }
  | _ => none }
def FaultWrapsWrongFalsely : Prop := faultWrapsRow.holds Tryd.pinned (OpenSpec.ofChange faultWrapsWrong)

/- THE SECOND FORM. 'bulk': how many values and letters a reading holds, each counted each time it is reached (what is shared counts as often as it is met; a slice's spare places count too). A statement '..UptoSaid' is the law's where the arguments, and the package variables that the reading takes, are together of bulk at most 1048576: NARROWER than '..Said'. Prove '..Said' where nothing that the law and all that it calls make is longer than what came in: it says more and counts as full. Else prove '..UptoSaid'. A law counts once. -/
mutual
def uptoBulk {H : Type} : DataW H → Nat
  | .lit (.string bytes) => bytes.length + 1
  | .lit _ => 1
  | .nil => 1
  | .ptr d => uptoBulk d + 1
  | .slice elems spare => uptoBulkAll elems + uptoBulkAll spare + 1
  | .agg parts => uptoBulkAll parts + 1
  | .iface _ d => uptoBulk d + 1
  | .map entries => uptoBulkEntries entries + 1
  | .held _ => 1
def uptoBulkAll {H : Type} : List (DataW H) → Nat
  | [] => 0
  | d :: r => uptoBulk d + uptoBulkAll r
def uptoBulkEntries {H : Type} : List (Lit × DataW H) → Nat
  | [] => 0
  | x :: r => uptoBulkEntry x + uptoBulkEntries r
def uptoBulkEntry {H : Type} : Lit × DataW H → Nat
  | (.string bytes, d) => bytes.length + uptoBulk d + 1
  | (_, d) => uptoBulk d + 1
 end
def uptoSmall : (H : Type) → List (DataW H) → Bool := fun _ ds => decide (uptoBulkAll ds ≤ 1048576)
def OpenSpec.upto (s : _root_.Go.ChangeSpec) : _root_.Go.OpenSpec := { _root_.Go.OpenSpec.ofChange s with cond := some uptoSmall }

/-- 'muleteerlaw28.OutcomeOf', WHERE WHAT IT READS IS OF BULK AT MOST 1048576: true; the input reads as it did. -/
def outcomeOfUptoRow : OpenClaim := { program := "ytidpbinhcfbpmaadoor", sum := "b47f51bef25042f1d78a428aadb86b1afe9c379080b1fbad01d104f9c3475f5c", func := "muleteer/muleteerlaw28.OutcomeOf", spec := "outcomeOf", inPlace := ["internal/reflectlite.ValueOf", "(internal/reflectlite.Value).Type", "(internal/reflectlite.Value).IsNil", "internal/reflectlite.TypeOf", "(internal/reflectlite.Value).Elem", "(internal/reflectlite.Value).Set"], unfollowed := true, recurses := true, named := ["errors.errorType"], apart := false, laid := [("errors.errorType", laid_errors_errorType)], narrowed := true }
def OutcomeOfUptoSaid : Prop := outcomeOfUptoRow.holds Tryd.pinned (OpenSpec.upto outcomeOfSpec)

/-- 'muleteerlaw28.OutcomeWraps', WHERE WHAT IT READS IS OF BULK AT MOST 1048576: true; the input reads as it did. -/
def outcomeWrapsUptoRow : OpenClaim := { program := "ytidpbinhcfbpmaadoor", sum := "b47f51bef25042f1d78a428aadb86b1afe9c379080b1fbad01d104f9c3475f5c", func := "muleteer/muleteerlaw28.OutcomeWraps", spec := "outcomeWraps", inPlace := ["internal/reflectlite.ValueOf", "(internal/reflectlite.Value).Type", "(internal/reflectlite.Value).IsNil", "internal/reflectlite.TypeOf", "(internal/reflectlite.Value).Elem", "(internal/reflectlite.Value).Set"], unfollowed := true, recurses := true, named := ["errors.errorType"], apart := false, laid := [("errors.errorType", laid_errors_errorType)], narrowed := true }
def OutcomeWrapsUptoSaid : Prop := outcomeWrapsUptoRow.holds Tryd.pinned (OpenSpec.upto outcomeWrapsSpec)

/-- 'muleteerlaw28.OutcomeTells', WHERE WHAT IT READS IS OF BULK AT MOST 1048576: true; the input reads as it did. -/
def outcomeTellsUptoRow : OpenClaim := { program := "ytidpbinhcfbpmaadoor", sum := "b47f51bef25042f1d78a428aadb86b1afe9c379080b1fbad01d104f9c3475f5c", func := "muleteer/muleteerlaw28.OutcomeTells", spec := "outcomeTells", inPlace := ["internal/reflectlite.ValueOf", "(internal/reflectlite.Value).Type", "(internal/reflectlite.Value).IsNil", "internal/reflectlite.TypeOf", "(internal/reflectlite.Value).Elem", "(internal/reflectlite.Value).Set"], unfollowed := true, recurses := true, named := ["errors.errorType"], apart := false, laid := [("errors.errorType", laid_errors_errorType)], narrowed := true }
def OutcomeTellsUptoSaid : Prop := outcomeTellsUptoRow.holds Tryd.pinned (OpenSpec.upto outcomeTellsSpec)

/-- 'muleteerlaw08.FaultWraps', WHERE WHAT IT READS IS OF BULK AT MOST 1048576: true; the input reads as it did. -/
def faultWrapsUptoRow : OpenClaim := { program := "ytidpbinhcfbpmaadoor", sum := "b47f51bef25042f1d78a428aadb86b1afe9c379080b1fbad01d104f9c3475f5c", func := "muleteer/muleteerlaw08.FaultWraps", spec := "faultWraps", inPlace := ["internal/reflectlite.ValueOf", "(internal/reflectlite.Value).Type", "(internal/reflectlite.Value).IsNil", "internal/reflectlite.TypeOf", "(internal/reflectlite.Value).Elem", "(internal/reflectlite.Value).Set"], unfollowed := true, recurses := true, named := ["errors.errorType"], apart := false, laid := [("errors.errorType", laid_errors_errorType)], narrowed := true }
def FaultWrapsUptoSaid : Prop := faultWrapsUptoRow.holds Tryd.pinned (OpenSpec.upto faultWrapsSpec)

end Rows
end Go.Proofs.YtidpbinhcfbpmaaDoor
