/-
  No cell of these rows narrows 'for every input' (looked for: loops, veiled, ifaces, maps, wideKeys, modest, calm, conditions, laid).
  DERIVED. THE GIVEN ROWS OF THIS SEAT. 10 by the template 'for every input the law returns true; each argument reads behind the call as it read before'; 0 by the template 'total and deterministic' (their statements: YtfdcofnccbhaaaaTotals.lean).
  GIVEN WITH THE SEED: the statements are not yours to turn. If you find one false, say at which input.
  Laid BY PROGRAM, IN A SANDBOX (cutbox-rows.mjs): the forced cells as the released guide's own fill.sh prints them over the translation 5154cccd4da732ea… (all of the seat's roots in one cut). By AI agents, Wed Nov 11 2026. No macro, syntax, notation, axiom, sorry.
-/
import Derived.Test.YtfdcofnccbhaaaaChecked
import GoSem.Claim
import GoSem.ClaimJoined
import GoSem.ClaimMapViews
import Derived.JoinedTies
import Derived.KernelRfl
namespace Go.Proofs.Ytfdcofnccbhaaaa
/- THE CELL 'sum', in the pinned program and in every row, IS THE sha256 OF THE DUMP (.gsa) THAT YtfdcofnccbhaaaaProg.lean LOADS. Nothing in Lean hashes anything: it is a label: what it is worth is what the hold of that sum in a sandbox is worth. -/
noncomputable def Try.pinned : Pinned := { name := "ytfdcofnccbhaaaa", sum := "5154cccd4da732eab45e69a2e6cc818642c7c21a808922169332ab1c3aa1d368", checked := Try.checked }
namespace Rows
def none {H : Type} : Left H := { results := [], args := [] }

/-- 'muleteerlaw01.DigitPuts': WHATEVER THE INPUT: true; the input reads as it did. -/
def digitPutsSpec : ChangeSpec := { name := "digitPuts", fn := fun _ => fun
  | [d1, d2, d3] => { results := [.lit (.bool true)], args := [d1, d2, d3] }
  | _ => none }
def digitPutsRow : OpenClaim := { program := "ytfdcofnccbhaaaa", sum := "5154cccd4da732eab45e69a2e6cc818642c7c21a808922169332ab1c3aa1d368", func := "muleteer/muleteerlaw01.DigitPuts", spec := "digitPuts", inPlace := ["internal/abi.NoEscape"], unfollowed := true, recurses := true, apart := false }
def DigitPutsSaid : Prop := digitPutsRow.holds Try.pinned (OpenSpec.ofChange digitPutsSpec)

/-- ITS FALSE NEIGHBOUR: 'it returns false'. Refute it at one input. -/
def digitPutsWrong : ChangeSpec := { name := "digitPuts", fn := fun _ => fun
  | [d1, d2, d3] => { results := [.lit (.bool false)], args := [d1, d2, d3] }
  | _ => none }
def DigitPutsWrongFalsely : Prop := digitPutsRow.holds Try.pinned (OpenSpec.ofChange digitPutsWrong)

/-- 'muleteerlaw01.DigitRises': WHATEVER THE INPUT: true; the input reads as it did. -/
def digitRisesSpec : ChangeSpec := { name := "digitRises", fn := fun _ => fun
  | [d1, d2] => { results := [.lit (.bool true)], args := [d1, d2] }
  | _ => none }
def digitRisesRow : OpenClaim := { program := "ytfdcofnccbhaaaa", sum := "5154cccd4da732eab45e69a2e6cc818642c7c21a808922169332ab1c3aa1d368", func := "muleteer/muleteerlaw01.DigitRises", spec := "digitRises", inPlace := ["internal/abi.NoEscape"], unfollowed := true, recurses := true, apart := false }
def DigitRisesSaid : Prop := digitRisesRow.holds Try.pinned (OpenSpec.ofChange digitRisesSpec)

/-- ITS FALSE NEIGHBOUR: 'it returns false'. Refute it at one input. -/
def digitRisesWrong : ChangeSpec := { name := "digitRises", fn := fun _ => fun
  | [d1, d2] => { results := [.lit (.bool false)], args := [d1, d2] }
  | _ => none }
def DigitRisesWrongFalsely : Prop := digitRisesRow.holds Try.pinned (OpenSpec.ofChange digitRisesWrong)

/-- 'muleteerlaw07.ConfMay': WHATEVER THE INPUT: true; the input reads as it did. -/
def confMaySpec : ChangeSpec := { name := "confMay", fn := fun _ => fun
  | [d1, d2] => { results := [.lit (.bool true)], args := [d1, d2] }
  | _ => none }
def confMayRow : OpenClaim := { program := "ytfdcofnccbhaaaa", sum := "5154cccd4da732eab45e69a2e6cc818642c7c21a808922169332ab1c3aa1d368", func := "muleteer/muleteerlaw07.ConfMay", spec := "confMay", unfollowed := true, recurses := true, apart := false }
def ConfMaySaid : Prop := confMayRow.holds Try.pinned (OpenSpec.ofChange confMaySpec)

/-- ITS FALSE NEIGHBOUR: 'it returns false'. Refute it at one input. -/
def confMayWrong : ChangeSpec := { name := "confMay", fn := fun _ => fun
  | [d1, d2] => { results := [.lit (.bool false)], args := [d1, d2] }
  | _ => none }
def ConfMayWrongFalsely : Prop := confMayRow.holds Try.pinned (OpenSpec.ofChange confMayWrong)

/-- 'muleteerlaw07.ConfPlain': WHATEVER THE INPUT: true; the input reads as it did. -/
def confPlainSpec : ChangeSpec := { name := "confPlain", fn := fun _ => fun
  | [d1, d2, d3] => { results := [.lit (.bool true)], args := [d1, d2, d3] }
  | _ => none }
def confPlainRow : OpenClaim := { program := "ytfdcofnccbhaaaa", sum := "5154cccd4da732eab45e69a2e6cc818642c7c21a808922169332ab1c3aa1d368", func := "muleteer/muleteerlaw07.ConfPlain", spec := "confPlain", unfollowed := true, recurses := true, apart := false }
def ConfPlainSaid : Prop := confPlainRow.holds Try.pinned (OpenSpec.ofChange confPlainSpec)

/-- ITS FALSE NEIGHBOUR: 'it returns false'. Refute it at one input. -/
def confPlainWrong : ChangeSpec := { name := "confPlain", fn := fun _ => fun
  | [d1, d2, d3] => { results := [.lit (.bool false)], args := [d1, d2, d3] }
  | _ => none }
def ConfPlainWrongFalsely : Prop := confPlainRow.holds Try.pinned (OpenSpec.ofChange confPlainWrong)

/-- 'muleteerlaw16.QueueNobody': WHATEVER THE INPUT: true; the input reads as it did. -/
def queueNobodySpec : ChangeSpec := { name := "queueNobody", fn := fun _ => fun
  | [d] => { results := [.lit (.bool true)], args := [d] }
  | _ => none }
def queueNobodyRow : OpenClaim := { program := "ytfdcofnccbhaaaa", sum := "5154cccd4da732eab45e69a2e6cc818642c7c21a808922169332ab1c3aa1d368", func := "muleteer/muleteerlaw16.QueueNobody", spec := "queueNobody", apart := false }
def QueueNobodySaid : Prop := queueNobodyRow.holds Try.pinned (OpenSpec.ofChange queueNobodySpec)

/-- ITS FALSE NEIGHBOUR: 'it returns false'. Refute it at one input. -/
def queueNobodyWrong : ChangeSpec := { name := "queueNobody", fn := fun _ => fun
  | [d] => { results := [.lit (.bool false)], args := [d] }
  | _ => none }
def QueueNobodyWrongFalsely : Prop := queueNobodyRow.holds Try.pinned (OpenSpec.ofChange queueNobodyWrong)

/-- 'muleteerlaw16.QueuePlays': WHATEVER THE INPUT: true; the input reads as it did. -/
def queuePlaysSpec : ChangeSpec := { name := "queuePlays", fn := fun _ => fun
  | [d1, d2] => { results := [.lit (.bool true)], args := [d1, d2] }
  | _ => none }
def queuePlaysRow : OpenClaim := { program := "ytfdcofnccbhaaaa", sum := "5154cccd4da732eab45e69a2e6cc818642c7c21a808922169332ab1c3aa1d368", func := "muleteer/muleteerlaw16.QueuePlays", spec := "queuePlays", apart := false }
def QueuePlaysSaid : Prop := queuePlaysRow.holds Try.pinned (OpenSpec.ofChange queuePlaysSpec)

/-- ITS FALSE NEIGHBOUR: 'it returns false'. Refute it at one input. -/
def queuePlaysWrong : ChangeSpec := { name := "queuePlays", fn := fun _ => fun
  | [d1, d2] => { results := [.lit (.bool false)], args := [d1, d2] }
  | _ => none }
def QueuePlaysWrongFalsely : Prop := queuePlaysRow.holds Try.pinned (OpenSpec.ofChange queuePlaysWrong)

/-- 'muleteerlaw31.SubmitAfter': WHATEVER THE INPUT: true; the input reads as it did. -/
def submitAfterSpec : ChangeSpec := { name := "submitAfter", fn := fun _ => fun
  | [d1, d2, d3] => { results := [.lit (.bool true)], args := [d1, d2, d3] }
  | _ => none }
def submitAfterRow : OpenClaim := { program := "ytfdcofnccbhaaaa", sum := "5154cccd4da732eab45e69a2e6cc818642c7c21a808922169332ab1c3aa1d368", func := "muleteer/muleteerlaw31.SubmitAfter", spec := "submitAfter", unfollowed := true, recurses := true, apart := false }
def SubmitAfterSaid : Prop := submitAfterRow.holds Try.pinned (OpenSpec.ofChange submitAfterSpec)

/-- ITS FALSE NEIGHBOUR: 'it returns false'. Refute it at one input. -/
def submitAfterWrong : ChangeSpec := { name := "submitAfter", fn := fun _ => fun
  | [d1, d2, d3] => { results := [.lit (.bool false)], args := [d1, d2, d3] }
  | _ => none }
def SubmitAfterWrongFalsely : Prop := submitAfterRow.holds Try.pinned (OpenSpec.ofChange submitAfterWrong)

/-- 'muleteerlaw27.BatchParts': WHATEVER THE INPUT: true; the input reads as it did. -/
def batchPartsSpec : ChangeSpec := { name := "batchParts", fn := fun _ => fun
  | [d1, d2] => { results := [.lit (.bool true)], args := [d1, d2] }
  | _ => none }
def batchPartsRow : OpenClaim := { program := "ytfdcofnccbhaaaa", sum := "5154cccd4da732eab45e69a2e6cc818642c7c21a808922169332ab1c3aa1d368", func := "muleteer/muleteerlaw27.BatchParts", spec := "batchParts", unfollowed := true, recurses := true, apart := false }
def BatchPartsSaid : Prop := batchPartsRow.holds Try.pinned (OpenSpec.ofChange batchPartsSpec)

/-- ITS FALSE NEIGHBOUR: 'it returns false'. Refute it at one input. -/
def batchPartsWrong : ChangeSpec := { name := "batchParts", fn := fun _ => fun
  | [d1, d2] => { results := [.lit (.bool false)], args := [d1, d2] }
  | _ => none }
def BatchPartsWrongFalsely : Prop := batchPartsRow.holds Try.pinned (OpenSpec.ofChange batchPartsWrong)

/-- 'muleteerlaw27.BatchPlays': WHATEVER THE INPUT: true; the input reads as it did. -/
def batchPlaysSpec : ChangeSpec := { name := "batchPlays", fn := fun _ => fun
  | [d1, d2, d3] => { results := [.lit (.bool true)], args := [d1, d2, d3] }
  | _ => none }
def batchPlaysRow : OpenClaim := { program := "ytfdcofnccbhaaaa", sum := "5154cccd4da732eab45e69a2e6cc818642c7c21a808922169332ab1c3aa1d368", func := "muleteer/muleteerlaw27.BatchPlays", spec := "batchPlays", apart := false }
def BatchPlaysSaid : Prop := batchPlaysRow.holds Try.pinned (OpenSpec.ofChange batchPlaysSpec)

/-- ITS FALSE NEIGHBOUR: 'it returns false'. Refute it at one input. -/
def batchPlaysWrong : ChangeSpec := { name := "batchPlays", fn := fun _ => fun
  | [d1, d2, d3] => { results := [.lit (.bool false)], args := [d1, d2, d3] }
  | _ => none }
def BatchPlaysWrongFalsely : Prop := batchPlaysRow.holds Try.pinned (OpenSpec.ofChange batchPlaysWrong)

/-- 'muleteerlaw06.EventFinds': WHATEVER THE INPUT: true; the input reads as it did. -/
def eventFindsSpec : ChangeSpec := { name := "eventFinds", fn := fun _ => fun
  | [d1, d2, d3] => { results := [.lit (.bool true)], args := [d1, d2, d3] }
  | _ => none }
def eventFindsRow : OpenClaim := { program := "ytfdcofnccbhaaaa", sum := "5154cccd4da732eab45e69a2e6cc818642c7c21a808922169332ab1c3aa1d368", func := "muleteer/muleteerlaw06.EventFinds", spec := "eventFinds", unfollowed := true, recurses := true, apart := false }
def EventFindsSaid : Prop := eventFindsRow.holds Try.pinned (OpenSpec.ofChange eventFindsSpec)

/-- ITS FALSE NEIGHBOUR: 'it returns false'. Refute it at one input. -/
def eventFindsWrong : ChangeSpec := { name := "eventFinds", fn := fun _ => fun
  | [d1, d2, d3] => { results := [.lit (.bool false)], args := [d1, d2, d3] }
  | _ => none }
def EventFindsWrongFalsely : Prop := eventFindsRow.holds Try.pinned (OpenSpec.ofChange eventFindsWrong)

/- THE SECOND FORM. 'bulk': how many values and letters a reading holds, each counted each time it is reached (what is shared counts as often as it is met; a slice's spare places count too). A statement '..UptoSaid' is the law's where the arguments, and the package variables that the reading takes, are together of bulk at most 1048576: NARROWER than '..Said'. Prove '..Said' where nothing that the law and all that it calls make is longer than what came in: it says more and counts as full. Else prove '..UptoSaid'. A law counts once. -/
mutual
def uptoBulk {H : Type} : DataW H → Nat
  | .lit (.string bytes) => bytes.length + 1
  | .lit _ => 1
  | .nil => 1
  | .ptr d => uptoBulk d + 1
  | .slice elems spare => uptoBulkAll elems + uptoBulkAll spare + 1
  | .agg parts => uptoBulkAll parts + 1
  | .iface _ d => uptoBulk d + 1
  | .map entries => uptoBulkEntries entries + 1
  | .held _ => 1
def uptoBulkAll {H : Type} : List (DataW H) → Nat
  | [] => 0
  | d :: r => uptoBulk d + uptoBulkAll r
def uptoBulkEntries {H : Type} : List (Lit × DataW H) → Nat
  | [] => 0
  | x :: r => uptoBulkEntry x + uptoBulkEntries r
def uptoBulkEntry {H : Type} : Lit × DataW H → Nat
  | (.string bytes, d) => bytes.length + uptoBulk d + 1
  | (_, d) => uptoBulk d + 1
 end
def uptoSmall : (H : Type) → List (DataW H) → Bool := fun _ ds => decide (uptoBulkAll ds ≤ 1048576)
def OpenSpec.upto (s : _root_.Go.ChangeSpec) : _root_.Go.OpenSpec := { _root_.Go.OpenSpec.ofChange s with cond := some uptoSmall }

/-- 'muleteerlaw01.DigitPuts', WHERE WHAT IT READS IS OF BULK AT MOST 1048576: true; the input reads as it did. -/
def digitPutsUptoRow : OpenClaim := { program := "ytfdcofnccbhaaaa", sum := "5154cccd4da732eab45e69a2e6cc818642c7c21a808922169332ab1c3aa1d368", func := "muleteer/muleteerlaw01.DigitPuts", spec := "digitPuts", inPlace := ["internal/abi.NoEscape"], unfollowed := true, recurses := true, apart := false, narrowed := true }
def DigitPutsUptoSaid : Prop := digitPutsUptoRow.holds Try.pinned (OpenSpec.upto digitPutsSpec)

/-- 'muleteerlaw01.DigitRises', WHERE WHAT IT READS IS OF BULK AT MOST 1048576: true; the input reads as it did. -/
def digitRisesUptoRow : OpenClaim := { program := "ytfdcofnccbhaaaa", sum := "5154cccd4da732eab45e69a2e6cc818642c7c21a808922169332ab1c3aa1d368", func := "muleteer/muleteerlaw01.DigitRises", spec := "digitRises", inPlace := ["internal/abi.NoEscape"], unfollowed := true, recurses := true, apart := false, narrowed := true }
def DigitRisesUptoSaid : Prop := digitRisesUptoRow.holds Try.pinned (OpenSpec.upto digitRisesSpec)

/-- 'muleteerlaw07.ConfMay', WHERE WHAT IT READS IS OF BULK AT MOST 1048576: true; the input reads as it did. -/
def confMayUptoRow : OpenClaim := { program := "ytfdcofnccbhaaaa", sum := "5154cccd4da732eab45e69a2e6cc818642c7c21a808922169332ab1c3aa1d368", func := "muleteer/muleteerlaw07.ConfMay", spec := "confMay", unfollowed := true, recurses := true, apart := false, narrowed := true }
def ConfMayUptoSaid : Prop := confMayUptoRow.holds Try.pinned (OpenSpec.upto confMaySpec)

/-- 'muleteerlaw07.ConfPlain', WHERE WHAT IT READS IS OF BULK AT MOST 1048576: true; the input reads as it did. -/
def confPlainUptoRow : OpenClaim := { program := "ytfdcofnccbhaaaa", sum := "5154cccd4da732eab45e69a2e6cc818642c7c21a808922169332ab1c3aa1d368", func := "muleteer/muleteerlaw07.ConfPlain", spec := "confPlain", unfollowed := true, recurses := true, apart := false, narrowed := true }
def ConfPlainUptoSaid : Prop := confPlainUptoRow.holds Try.pinned (OpenSpec.upto confPlainSpec)

/-- 'muleteerlaw16.QueueNobody', WHERE WHAT IT READS IS OF BULK AT MOST 1048576: true; the input reads as it did. -/
def queueNobodyUptoRow : OpenClaim := { program := "ytfdcofnccbhaaaa", sum := "5154cccd4da732eab45e69a2e6cc818642c7c21a808922169332ab1c3aa1d368", func := "muleteer/muleteerlaw16.QueueNobody", spec := "queueNobody", apart := false, narrowed := true }
def QueueNobodyUptoSaid : Prop := queueNobodyUptoRow.holds Try.pinned (OpenSpec.upto queueNobodySpec)

/-- 'muleteerlaw16.QueuePlays', WHERE WHAT IT READS IS OF BULK AT MOST 1048576: true; the input reads as it did. -/
def queuePlaysUptoRow : OpenClaim := { program := "ytfdcofnccbhaaaa", sum := "5154cccd4da732eab45e69a2e6cc818642c7c21a808922169332ab1c3aa1d368", func := "muleteer/muleteerlaw16.QueuePlays", spec := "queuePlays", apart := false, narrowed := true }
def QueuePlaysUptoSaid : Prop := queuePlaysUptoRow.holds Try.pinned (OpenSpec.upto queuePlaysSpec)

/-- 'muleteerlaw31.SubmitAfter', WHERE WHAT IT READS IS OF BULK AT MOST 1048576: true; the input reads as it did. -/
def submitAfterUptoRow : OpenClaim := { program := "ytfdcofnccbhaaaa", sum := "5154cccd4da732eab45e69a2e6cc818642c7c21a808922169332ab1c3aa1d368", func := "muleteer/muleteerlaw31.SubmitAfter", spec := "submitAfter", unfollowed := true, recurses := true, apart := false, narrowed := true }
def SubmitAfterUptoSaid : Prop := submitAfterUptoRow.holds Try.pinned (OpenSpec.upto submitAfterSpec)

/-- 'muleteerlaw27.BatchParts', WHERE WHAT IT READS IS OF BULK AT MOST 1048576: true; the input reads as it did. -/
def batchPartsUptoRow : OpenClaim := { program := "ytfdcofnccbhaaaa", sum := "5154cccd4da732eab45e69a2e6cc818642c7c21a808922169332ab1c3aa1d368", func := "muleteer/muleteerlaw27.BatchParts", spec := "batchParts", unfollowed := true, recurses := true, apart := false, narrowed := true }
def BatchPartsUptoSaid : Prop := batchPartsUptoRow.holds Try.pinned (OpenSpec.upto batchPartsSpec)

/-- 'muleteerlaw27.BatchPlays', WHERE WHAT IT READS IS OF BULK AT MOST 1048576: true; the input reads as it did. -/
def batchPlaysUptoRow : OpenClaim := { program := "ytfdcofnccbhaaaa", sum := "5154cccd4da732eab45e69a2e6cc818642c7c21a808922169332ab1c3aa1d368", func := "muleteer/muleteerlaw27.BatchPlays", spec := "batchPlays", apart := false, narrowed := true }
def BatchPlaysUptoSaid : Prop := batchPlaysUptoRow.holds Try.pinned (OpenSpec.upto batchPlaysSpec)

/-- 'muleteerlaw06.EventFinds', WHERE WHAT IT READS IS OF BULK AT MOST 1048576: true; the input reads as it did. -/
def eventFindsUptoRow : OpenClaim := { program := "ytfdcofnccbhaaaa", sum := "5154cccd4da732eab45e69a2e6cc818642c7c21a808922169332ab1c3aa1d368", func := "muleteer/muleteerlaw06.EventFinds", spec := "eventFinds", unfollowed := true, recurses := true, apart := false, narrowed := true }
def EventFindsUptoSaid : Prop := eventFindsUptoRow.holds Try.pinned (OpenSpec.upto eventFindsSpec)

end Rows
end Go.Proofs.Ytfdcofnccbhaaaa
