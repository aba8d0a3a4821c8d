/-
  No cell of these rows narrows 'for every input' (looked for: loops, veiled, ifaces, maps, wideKeys, modest, calm, conditions, laid).
  DERIVED. THE GIVEN ROWS OF THIS SEAT. 6 by the template 'for every input the law returns true; each argument reads behind the call as it read before'; 0 by the template 'total and deterministic' (their statements: YtnidafgjbocfcaaTotals.lean).
  GIVEN WITH THE SEED: the statements are not yours to turn. If you find one false, say at which input.
  Laid BY PROGRAM, IN A SANDBOX (cutbox-rows.mjs): the forced cells as the released guide's own fill.sh prints them over the translation 02e6f19857d1729a… (all of the seat's roots in one cut). By AI agents, Wed Nov 11 2026. No macro, syntax, notation, axiom, sorry.
-/
import Derived.Test.YtnidafgjbocfcaaChecked
import GoSem.Claim
import GoSem.ClaimJoined
import GoSem.ClaimMapViews
import Derived.JoinedTies
import Derived.KernelRfl
namespace Go.Proofs.Ytnidafgjbocfcaa
/- THE CELL 'sum', in the pinned program and in every row, IS THE sha256 OF THE DUMP (.gsa) THAT YtnidafgjbocfcaaProg.lean LOADS. Nothing in Lean hashes anything: it is a label: what it is worth is what the hold of that sum in a sandbox is worth. -/
noncomputable def Try.pinned : Pinned := { name := "ytnidafgjbocfcaa", sum := "02e6f19857d1729a0afe06bd3267627602150a101af383ac39872df908b2b3e6", checked := Try.checked }
namespace Rows
def none {H : Type} : Left H := { results := [], args := [] }

/-- 'muleteerlaw31.SubmitAfter': WHATEVER THE INPUT: true; the input reads as it did. -/
def submitAfterSpec : ChangeSpec := { name := "submitAfter", fn := fun _ => fun
  | [d1, d2, d3] => { results := [.lit (.bool true)], args := [d1, d2, d3] }
  | _ => none }
def submitAfterRow : OpenClaim := { program := "ytnidafgjbocfcaa", sum := "02e6f19857d1729a0afe06bd3267627602150a101af383ac39872df908b2b3e6", func := "muleteer/muleteerlaw31.SubmitAfter", spec := "submitAfter", unfollowed := true, recurses := true, apart := false }
def SubmitAfterSaid : Prop := submitAfterRow.holds Try.pinned (OpenSpec.ofChange submitAfterSpec)

/-- ITS FALSE NEIGHBOUR: 'it returns false'. Refute it at one input. -/
def submitAfterWrong : ChangeSpec := { name := "submitAfter", fn := fun _ => fun
  | [d1, d2, d3] => { results := [.lit (.bool false)], args := [d1, d2, d3] }
  | _ => none }
def SubmitAfterWrongFalsely : Prop := submitAfterRow.holds Try.pinned (OpenSpec.ofChange submitAfterWrong)

/-- 'muleteerlaw06.EventFinds': WHATEVER THE INPUT: true; the input reads as it did. -/
def eventFindsSpec : ChangeSpec := { name := "eventFinds", fn := fun _ => fun
  | [d1, d2, d3] => { results := [.lit (.bool true)], args := [d1, d2, d3] }
  | _ => none }
def eventFindsRow : OpenClaim := { program := "ytnidafgjbocfcaa", sum := "02e6f19857d1729a0afe06bd3267627602150a101af383ac39872df908b2b3e6", func := "muleteer/muleteerlaw06.EventFinds", spec := "eventFinds", unfollowed := true, recurses := true, apart := false }
def EventFindsSaid : Prop := eventFindsRow.holds Try.pinned (OpenSpec.ofChange eventFindsSpec)

/-- ITS FALSE NEIGHBOUR: 'it returns false'. Refute it at one input. -/
def eventFindsWrong : ChangeSpec := { name := "eventFinds", fn := fun _ => fun
  | [d1, d2, d3] => { results := [.lit (.bool false)], args := [d1, d2, d3] }
  | _ => none }
def EventFindsWrongFalsely : Prop := eventFindsRow.holds Try.pinned (OpenSpec.ofChange eventFindsWrong)

/-- 'muleteerlaw27.BatchParts': WHATEVER THE INPUT: true; the input reads as it did. -/
def batchPartsSpec : ChangeSpec := { name := "batchParts", fn := fun _ => fun
  | [d1, d2] => { results := [.lit (.bool true)], args := [d1, d2] }
  | _ => none }
def batchPartsRow : OpenClaim := { program := "ytnidafgjbocfcaa", sum := "02e6f19857d1729a0afe06bd3267627602150a101af383ac39872df908b2b3e6", func := "muleteer/muleteerlaw27.BatchParts", spec := "batchParts", unfollowed := true, recurses := true, apart := false }
def BatchPartsSaid : Prop := batchPartsRow.holds Try.pinned (OpenSpec.ofChange batchPartsSpec)

/-- ITS FALSE NEIGHBOUR: 'it returns false'. Refute it at one input. -/
def batchPartsWrong : ChangeSpec := { name := "batchParts", fn := fun _ => fun
  | [d1, d2] => { results := [.lit (.bool false)], args := [d1, d2] }
  | _ => none }
def BatchPartsWrongFalsely : Prop := batchPartsRow.holds Try.pinned (OpenSpec.ofChange batchPartsWrong)

/-- 'muleteerlaw07.ConfPlain': WHATEVER THE INPUT: true; the input reads as it did. -/
def confPlainSpec : ChangeSpec := { name := "confPlain", fn := fun _ => fun
  | [d1, d2, d3] => { results := [.lit (.bool true)], args := [d1, d2, d3] }
  | _ => none }
def confPlainRow : OpenClaim := { program := "ytnidafgjbocfcaa", sum := "02e6f19857d1729a0afe06bd3267627602150a101af383ac39872df908b2b3e6", func := "muleteer/muleteerlaw07.ConfPlain", spec := "confPlain", unfollowed := true, recurses := true, apart := false }
def ConfPlainSaid : Prop := confPlainRow.holds Try.pinned (OpenSpec.ofChange confPlainSpec)

/-- ITS FALSE NEIGHBOUR: 'it returns false'. Refute it at one input. -/
def confPlainWrong : ChangeSpec := { name := "confPlain", fn := fun _ => fun
  | [d1, d2, d3] => { results := [.lit (.bool false)], args := [d1, d2, d3] }
  | _ => none }
def ConfPlainWrongFalsely : Prop := confPlainRow.holds Try.pinned (OpenSpec.ofChange confPlainWrong)

/-- 'muleteerlaw19.PicksOrders': WHATEVER THE INPUT: true; the input reads as it did. -/
def picksOrdersSpec : ChangeSpec := { name := "picksOrders", fn := fun _ => fun
  | [d1, d2, d3] => { results := [.lit (.bool true)], args := [d1, d2, d3] }
  | _ => none }
def picksOrdersRow : OpenClaim := { program := "ytnidafgjbocfcaa", sum := "02e6f19857d1729a0afe06bd3267627602150a101af383ac39872df908b2b3e6", func := "muleteer/muleteerlaw19.PicksOrders", spec := "picksOrders", recurses := true, apart := false }
def PicksOrdersSaid : Prop := picksOrdersRow.holds Try.pinned (OpenSpec.ofChange picksOrdersSpec)

/-- ITS FALSE NEIGHBOUR: 'it returns false'. Refute it at one input. -/
def picksOrdersWrong : ChangeSpec := { name := "picksOrders", fn := fun _ => fun
  | [d1, d2, d3] => { results := [.lit (.bool false)], args := [d1, d2, d3] }
  | _ => none }
def PicksOrdersWrongFalsely : Prop := picksOrdersRow.holds Try.pinned (OpenSpec.ofChange picksOrdersWrong)

/-- 'muleteerlaw10.PoolOrder': WHATEVER THE INPUT: true; the input reads as it did. -/
def poolOrderSpec : ChangeSpec := { name := "poolOrder", fn := fun _ => fun
  | [d1, d2] => { results := [.lit (.bool true)], args := [d1, d2] }
  | _ => none }
def poolOrderRow : OpenClaim := { program := "ytnidafgjbocfcaa", sum := "02e6f19857d1729a0afe06bd3267627602150a101af383ac39872df908b2b3e6", func := "muleteer/muleteerlaw10.PoolOrder", spec := "poolOrder", apart := false }
def PoolOrderSaid : Prop := poolOrderRow.holds Try.pinned (OpenSpec.ofChange poolOrderSpec)

/-- ITS FALSE NEIGHBOUR: 'it returns false'. Refute it at one input. -/
def poolOrderWrong : ChangeSpec := { name := "poolOrder", fn := fun _ => fun
  | [d1, d2] => { results := [.lit (.bool false)], args := [d1, d2] }
  | _ => none }
def PoolOrderWrongFalsely : Prop := poolOrderRow.holds Try.pinned (OpenSpec.ofChange poolOrderWrong)

/- THE SECOND FORM. 'bulk': how many values and letters a reading holds, each counted each time it is reached (what is shared counts as often as it is met; a slice's spare places count too). A statement '..UptoSaid' is the law's where the arguments, and the package variables that the reading takes, are together of bulk at most 1048576: NARROWER than '..Said'. Prove '..Said' where nothing that the law and all that it calls make is longer than what came in: it says more and counts as full. Else prove '..UptoSaid'. A law counts once. -/
mutual
def uptoBulk {H : Type} : DataW H → Nat
  | .lit (.string bytes) => bytes.length + 1
  | .lit _ => 1
  | .nil => 1
  | .ptr d => uptoBulk d + 1
  | .slice elems spare => uptoBulkAll elems + uptoBulkAll spare + 1
  | .agg parts => uptoBulkAll parts + 1
  | .iface _ d => uptoBulk d + 1
  | .map entries => uptoBulkEntries entries + 1
  | .held _ => 1
def uptoBulkAll {H : Type} : List (DataW H) → Nat
  | [] => 0
  | d :: r => uptoBulk d + uptoBulkAll r
def uptoBulkEntries {H : Type} : List (Lit × DataW H) → Nat
  | [] => 0
  | x :: r => uptoBulkEntry x + uptoBulkEntries r
def uptoBulkEntry {H : Type} : Lit × DataW H → Nat
  | (.string bytes, d) => bytes.length + uptoBulk d + 1
  | (_, d) => uptoBulk d + 1
 end
def uptoSmall : (H : Type) → List (DataW H) → Bool := fun _ ds => decide (uptoBulkAll ds ≤ 1048576)
def OpenSpec.upto (s : _root_.Go.ChangeSpec) : _root_.Go.OpenSpec := { _root_.Go.OpenSpec.ofChange s with cond := some uptoSmall }

/-- 'muleteerlaw31.SubmitAfter', WHERE WHAT IT READS IS OF BULK AT MOST 1048576: true; the input reads as it did. -/
def submitAfterUptoRow : OpenClaim := { program := "ytnidafgjbocfcaa", sum := "02e6f19857d1729a0afe06bd3267627602150a101af383ac39872df908b2b3e6", func := "muleteer/muleteerlaw31.SubmitAfter", spec := "submitAfter", unfollowed := true, recurses := true, apart := false, narrowed := true }
def SubmitAfterUptoSaid : Prop := submitAfterUptoRow.holds Try.pinned (OpenSpec.upto submitAfterSpec)

/-- 'muleteerlaw06.EventFinds', WHERE WHAT IT READS IS OF BULK AT MOST 1048576: true; the input reads as it did. -/
def eventFindsUptoRow : OpenClaim := { program := "ytnidafgjbocfcaa", sum := "02e6f19857d1729a0afe06bd3267627602150a101af383ac39872df908b2b3e6", func := "muleteer/muleteerlaw06.EventFinds", spec := "eventFinds", unfollowed := true, recurses := true, apart := false, narrowed := true }
def EventFindsUptoSaid : Prop := eventFindsUptoRow.holds Try.pinned (OpenSpec.upto eventFindsSpec)

/-- 'muleteerlaw27.BatchParts', WHERE WHAT IT READS IS OF BULK AT MOST 1048576: true; the input reads as it did. -/
def batchPartsUptoRow : OpenClaim := { program := "ytnidafgjbocfcaa", sum := "02e6f19857d1729a0afe06bd3267627602150a101af383ac39872df908b2b3e6", func := "muleteer/muleteerlaw27.BatchParts", spec := "batchParts", unfollowed := true, recurses := true, apart := false, narrowed := true }
def BatchPartsUptoSaid : Prop := batchPartsUptoRow.holds Try.pinned (OpenSpec.upto batchPartsSpec)

/-- 'muleteerlaw07.ConfPlain', WHERE WHAT IT READS IS OF BULK AT MOST 1048576: true; the input reads as it did. -/
def confPlainUptoRow : OpenClaim := { program := "ytnidafgjbocfcaa", sum := "02e6f19857d1729a0afe06bd3267627602150a101af383ac39872df908b2b3e6", func := "muleteer/muleteerlaw07.ConfPlain", spec := "confPlain", unfollowed := true, recurses := true, apart := false, narrowed := true }
def ConfPlainUptoSaid : Prop := confPlainUptoRow.holds Try.pinned (OpenSpec.upto confPlainSpec)

/-- 'muleteerlaw19.PicksOrders', WHERE WHAT IT READS IS OF BULK AT MOST 1048576: true; the input reads as it did. -/
def picksOrdersUptoRow : OpenClaim := { program := "ytnidafgjbocfcaa", sum := "02e6f19857d1729a0afe06bd3267627602150a101af383ac39872df908b2b3e6", func := "muleteer/muleteerlaw19.PicksOrders", spec := "picksOrders", recurses := true, apart := false, narrowed := true }
def PicksOrdersUptoSaid : Prop := picksOrdersUptoRow.holds Try.pinned (OpenSpec.upto picksOrdersSpec)

/-- 'muleteerlaw10.PoolOrder', WHERE WHAT IT READS IS OF BULK AT MOST 1048576: true; the input reads as it did. -/
def poolOrderUptoRow : OpenClaim := { program := "ytnidafgjbocfcaa", sum := "02e6f19857d1729a0afe06bd3267627602150a101af383ac39872df908b2b3e6", func := "muleteer/muleteerlaw10.PoolOrder", spec := "poolOrder", apart := false, narrowed := true }
def PoolOrderUptoSaid : Prop := poolOrderUptoRow.holds Try.pinned (OpenSpec.upto poolOrderSpec)

end Rows
end Go.Proofs.Ytnidafgjbocfcaa
