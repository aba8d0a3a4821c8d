/-
  No cell of these rows narrows 'for every input' (looked for: loops, veiled, ifaces, maps, wideKeys, modest, calm, conditions, laid).
  DERIVED. THE GIVEN ROWS OF THIS SEAT. 12 by the template 'for every input the law returns true; each argument reads behind the call as it read before'; 0 by the template 'total and deterministic' (their statements: YticcobciafbleaaTotals.lean).
  GIVEN WITH THE SEED: the statements are not yours to turn. If you find one false, say at which input.
  Laid BY PROGRAM, IN A SANDBOX (cutbox-rows.mjs): the forced cells as the released guide's own fill.sh prints them over the translation a799aea8221e585e… (all of the seat's roots in one cut). By AI agents, Wed Nov 11 2026. No macro, syntax, notation, axiom, sorry.
-/
import Derived.Test.YticcobciafbleaaChecked
import GoSem.Claim
import GoSem.ClaimJoined
import GoSem.ClaimMapViews
import Derived.JoinedTies
import Derived.KernelRfl
namespace Go.Proofs.Yticcobciafbleaa
/- THE CELL 'sum', in the pinned program and in every row, IS THE sha256 OF THE DUMP (.gsa) THAT YticcobciafbleaaProg.lean LOADS. Nothing in Lean hashes anything: it is a label: what it is worth is what the hold of that sum in a sandbox is worth. -/
noncomputable def Try.pinned : Pinned := { name := "yticcobciafbleaa", sum := "a799aea8221e585ee8954b7580fd8b8308653ca44a5feb2192a135adfc72dd11", checked := Try.checked }
namespace Rows
def none {H : Type} : Left H := { results := [], args := [] }

/-- 'muleteerlaw16.QueueOrder': WHATEVER THE INPUT: true; the input reads as it did. -/
def queueOrderSpec : ChangeSpec := { name := "queueOrder", fn := fun _ => fun
  | [d1, d2, d3] => { results := [.lit (.bool true)], args := [d1, d2, d3] }
  | _ => none }
def queueOrderRow : OpenClaim := { program := "yticcobciafbleaa", sum := "a799aea8221e585ee8954b7580fd8b8308653ca44a5feb2192a135adfc72dd11", func := "muleteer/muleteerlaw16.QueueOrder", spec := "queueOrder", apart := false }
def QueueOrderSaid : Prop := queueOrderRow.holds Try.pinned (OpenSpec.ofChange queueOrderSpec)

/-- ITS FALSE NEIGHBOUR: 'it returns false'. Refute it at one input. -/
def queueOrderWrong : ChangeSpec := { name := "queueOrder", fn := fun _ => fun
  | [d1, d2, d3] => { results := [.lit (.bool false)], args := [d1, d2, d3] }
  | _ => none }
def QueueOrderWrongFalsely : Prop := queueOrderRow.holds Try.pinned (OpenSpec.ofChange queueOrderWrong)

/-- 'muleteerlaw03.PacketApart': WHATEVER THE INPUT: true; the input reads as it did. -/
def packetApartSpec : ChangeSpec := { name := "packetApart", fn := fun _ => fun
  | [d1, d2] => { results := [.lit (.bool true)], args := [d1, d2] }
  | _ => none }
def packetApartRow : OpenClaim := { program := "yticcobciafbleaa", sum := "a799aea8221e585ee8954b7580fd8b8308653ca44a5feb2192a135adfc72dd11", func := "muleteer/muleteerlaw03.PacketApart", spec := "packetApart", inPlace := ["internal/abi.NoEscape"], apart := false }
def PacketApartSaid : Prop := packetApartRow.holds Try.pinned (OpenSpec.ofChange packetApartSpec)

/-- ITS FALSE NEIGHBOUR: 'it returns false'. Refute it at one input. -/
def packetApartWrong : ChangeSpec := { name := "packetApart", fn := fun _ => fun
  | [d1, d2] => { results := [.lit (.bool false)], args := [d1, d2] }
  | _ => none }
def PacketApartWrongFalsely : Prop := packetApartRow.holds Try.pinned (OpenSpec.ofChange packetApartWrong)

/-- 'muleteerlaw17.TokenPlays': WHATEVER THE INPUT: true; the input reads as it did. -/
def tokenPlaysSpec : ChangeSpec := { name := "tokenPlays", fn := fun _ => fun
  | [d] => { results := [.lit (.bool true)], args := [d] }
  | _ => none }
def tokenPlaysRow : OpenClaim := { program := "yticcobciafbleaa", sum := "a799aea8221e585ee8954b7580fd8b8308653ca44a5feb2192a135adfc72dd11", func := "muleteer/muleteerlaw17.TokenPlays", spec := "tokenPlays", apart := false }
def TokenPlaysSaid : Prop := tokenPlaysRow.holds Try.pinned (OpenSpec.ofChange tokenPlaysSpec)

/-- ITS FALSE NEIGHBOUR: 'it returns false'. Refute it at one input. -/
def tokenPlaysWrong : ChangeSpec := { name := "tokenPlays", fn := fun _ => fun
  | [d] => { results := [.lit (.bool false)], args := [d] }
  | _ => none }
def TokenPlaysWrongFalsely : Prop := tokenPlaysRow.holds Try.pinned (OpenSpec.ofChange tokenPlaysWrong)

/-- 'muleteerlaw31.SubmitAfter': WHATEVER THE INPUT: true; the input reads as it did. -/
def submitAfterSpec : ChangeSpec := { name := "submitAfter", fn := fun _ => fun
  | [d1, d2, d3] => { results := [.lit (.bool true)], args := [d1, d2, d3] }
  | _ => none }
def submitAfterRow : OpenClaim := { program := "yticcobciafbleaa", sum := "a799aea8221e585ee8954b7580fd8b8308653ca44a5feb2192a135adfc72dd11", func := "muleteer/muleteerlaw31.SubmitAfter", spec := "submitAfter", unfollowed := true, recurses := true, apart := false }
def SubmitAfterSaid : Prop := submitAfterRow.holds Try.pinned (OpenSpec.ofChange submitAfterSpec)

/-- ITS FALSE NEIGHBOUR: 'it returns false'. Refute it at one input. -/
def submitAfterWrong : ChangeSpec := { name := "submitAfter", fn := fun _ => fun
  | [d1, d2, d3] => { results := [.lit (.bool false)], args := [d1, d2, d3] }
  | _ => none }
def SubmitAfterWrongFalsely : Prop := submitAfterRow.holds Try.pinned (OpenSpec.ofChange submitAfterWrong)

/-- 'muleteerlaw18.LifePlays': WHATEVER THE INPUT: true; the input reads as it did. -/
def lifePlaysSpec : ChangeSpec := { name := "lifePlays", fn := fun _ => fun
  | [d1, d2] => { results := [.lit (.bool true)], args := [d1, d2] }
  | _ => none }
def lifePlaysRow : OpenClaim := { program := "yticcobciafbleaa", sum := "a799aea8221e585ee8954b7580fd8b8308653ca44a5feb2192a135adfc72dd11", func := "muleteer/muleteerlaw18.LifePlays", spec := "lifePlays", unfollowed := true, recurses := true, apart := false }
def LifePlaysSaid : Prop := lifePlaysRow.holds Try.pinned (OpenSpec.ofChange lifePlaysSpec)

/-- ITS FALSE NEIGHBOUR: 'it returns false'. Refute it at one input. -/
def lifePlaysWrong : ChangeSpec := { name := "lifePlays", fn := fun _ => fun
  | [d1, d2] => { results := [.lit (.bool false)], args := [d1, d2] }
  | _ => none }
def LifePlaysWrongFalsely : Prop := lifePlaysRow.holds Try.pinned (OpenSpec.ofChange lifePlaysWrong)

/-- 'muleteerlaw06.EventFinds': WHATEVER THE INPUT: true; the input reads as it did. -/
def eventFindsSpec : ChangeSpec := { name := "eventFinds", fn := fun _ => fun
  | [d1, d2, d3] => { results := [.lit (.bool true)], args := [d1, d2, d3] }
  | _ => none }
def eventFindsRow : OpenClaim := { program := "yticcobciafbleaa", sum := "a799aea8221e585ee8954b7580fd8b8308653ca44a5feb2192a135adfc72dd11", func := "muleteer/muleteerlaw06.EventFinds", spec := "eventFinds", unfollowed := true, recurses := true, apart := false }
def EventFindsSaid : Prop := eventFindsRow.holds Try.pinned (OpenSpec.ofChange eventFindsSpec)

/-- ITS FALSE NEIGHBOUR: 'it returns false'. Refute it at one input. -/
def eventFindsWrong : ChangeSpec := { name := "eventFinds", fn := fun _ => fun
  | [d1, d2, d3] => { results := [.lit (.bool false)], args := [d1, d2, d3] }
  | _ => none }
def EventFindsWrongFalsely : Prop := eventFindsRow.holds Try.pinned (OpenSpec.ofChange eventFindsWrong)

/-- 'muleteerlaw19.PicksOrders': WHATEVER THE INPUT: true; the input reads as it did. -/
def picksOrdersSpec : ChangeSpec := { name := "picksOrders", fn := fun _ => fun
  | [d1, d2, d3] => { results := [.lit (.bool true)], args := [d1, d2, d3] }
  | _ => none }
def picksOrdersRow : OpenClaim := { program := "yticcobciafbleaa", sum := "a799aea8221e585ee8954b7580fd8b8308653ca44a5feb2192a135adfc72dd11", func := "muleteer/muleteerlaw19.PicksOrders", spec := "picksOrders", recurses := true, apart := false }
def PicksOrdersSaid : Prop := picksOrdersRow.holds Try.pinned (OpenSpec.ofChange picksOrdersSpec)

/-- ITS FALSE NEIGHBOUR: 'it returns false'. Refute it at one input. -/
def picksOrdersWrong : ChangeSpec := { name := "picksOrders", fn := fun _ => fun
  | [d1, d2, d3] => { results := [.lit (.bool false)], args := [d1, d2, d3] }
  | _ => none }
def PicksOrdersWrongFalsely : Prop := picksOrdersRow.holds Try.pinned (OpenSpec.ofChange picksOrdersWrong)

/-- 'muleteerlaw19.PicksRounds': WHATEVER THE INPUT: true; the input reads as it did. -/
def picksRoundsSpec : ChangeSpec := { name := "picksRounds", fn := fun _ => fun
  | [d1, d2] => { results := [.lit (.bool true)], args := [d1, d2] }
  | _ => none }
def picksRoundsRow : OpenClaim := { program := "yticcobciafbleaa", sum := "a799aea8221e585ee8954b7580fd8b8308653ca44a5feb2192a135adfc72dd11", func := "muleteer/muleteerlaw19.PicksRounds", spec := "picksRounds", unfollowed := true, recurses := true, apart := false }
def PicksRoundsSaid : Prop := picksRoundsRow.holds Try.pinned (OpenSpec.ofChange picksRoundsSpec)

/-- ITS FALSE NEIGHBOUR: 'it returns false'. Refute it at one input. -/
def picksRoundsWrong : ChangeSpec := { name := "picksRounds", fn := fun _ => fun
  | [d1, d2] => { results := [.lit (.bool false)], args := [d1, d2] }
  | _ => none }
def PicksRoundsWrongFalsely : Prop := picksRoundsRow.holds Try.pinned (OpenSpec.ofChange picksRoundsWrong)

/-- 'muleteerlaw07.ConfPlain': WHATEVER THE INPUT: true; the input reads as it did. -/
def confPlainSpec : ChangeSpec := { name := "confPlain", fn := fun _ => fun
  | [d1, d2, d3] => { results := [.lit (.bool true)], args := [d1, d2, d3] }
  | _ => none }
def confPlainRow : OpenClaim := { program := "yticcobciafbleaa", sum := "a799aea8221e585ee8954b7580fd8b8308653ca44a5feb2192a135adfc72dd11", func := "muleteer/muleteerlaw07.ConfPlain", spec := "confPlain", unfollowed := true, recurses := true, apart := false }
def ConfPlainSaid : Prop := confPlainRow.holds Try.pinned (OpenSpec.ofChange confPlainSpec)

/-- ITS FALSE NEIGHBOUR: 'it returns false'. Refute it at one input. -/
def confPlainWrong : ChangeSpec := { name := "confPlain", fn := fun _ => fun
  | [d1, d2, d3] => { results := [.lit (.bool false)], args := [d1, d2, d3] }
  | _ => none }
def ConfPlainWrongFalsely : Prop := confPlainRow.holds Try.pinned (OpenSpec.ofChange confPlainWrong)

/-- 'muleteerlaw16.QueuePlays': WHATEVER THE INPUT: true; the input reads as it did. -/
def queuePlaysSpec : ChangeSpec := { name := "queuePlays", fn := fun _ => fun
  | [d1, d2] => { results := [.lit (.bool true)], args := [d1, d2] }
  | _ => none }
def queuePlaysRow : OpenClaim := { program := "yticcobciafbleaa", sum := "a799aea8221e585ee8954b7580fd8b8308653ca44a5feb2192a135adfc72dd11", func := "muleteer/muleteerlaw16.QueuePlays", spec := "queuePlays", apart := false }
def QueuePlaysSaid : Prop := queuePlaysRow.holds Try.pinned (OpenSpec.ofChange queuePlaysSpec)

/-- ITS FALSE NEIGHBOUR: 'it returns false'. Refute it at one input. -/
def queuePlaysWrong : ChangeSpec := { name := "queuePlays", fn := fun _ => fun
  | [d1, d2] => { results := [.lit (.bool false)], args := [d1, d2] }
  | _ => none }
def QueuePlaysWrongFalsely : Prop := queuePlaysRow.holds Try.pinned (OpenSpec.ofChange queuePlaysWrong)

/-- 'muleteerlaw27.BatchParts': WHATEVER THE INPUT: true; the input reads as it did. -/
def batchPartsSpec : ChangeSpec := { name := "batchParts", fn := fun _ => fun
  | [d1, d2] => { results := [.lit (.bool true)], args := [d1, d2] }
  | _ => none }
def batchPartsRow : OpenClaim := { program := "yticcobciafbleaa", sum := "a799aea8221e585ee8954b7580fd8b8308653ca44a5feb2192a135adfc72dd11", func := "muleteer/muleteerlaw27.BatchParts", spec := "batchParts", unfollowed := true, recurses := true, apart := false }
def BatchPartsSaid : Prop := batchPartsRow.holds Try.pinned (OpenSpec.ofChange batchPartsSpec)

/-- ITS FALSE NEIGHBOUR: 'it returns false'. Refute it at one input. -/
def batchPartsWrong : ChangeSpec := { name := "batchParts", fn := fun _ => fun
  | [d1, d2] => { results := [.lit (.bool false)], args := [d1, d2] }
  | _ => none }
def BatchPartsWrongFalsely : Prop := batchPartsRow.holds Try.pinned (OpenSpec.ofChange batchPartsWrong)

/-- 'muleteerlaw40.DiceThrows': WHATEVER THE INPUT: true; the input reads as it did. -/
def diceThrowsSpec : ChangeSpec := { name := "diceThrows", fn := fun _ => fun
  | [d1, d2] => { results := [.lit (.bool true)], args := [d1, d2] }
  | _ => none }
def diceThrowsRow : OpenClaim := { program := "yticcobciafbleaa", sum := "a799aea8221e585ee8954b7580fd8b8308653ca44a5feb2192a135adfc72dd11", func := "muleteer/muleteerlaw40.DiceThrows", spec := "diceThrows", inPlace := ["internal/abi.NoEscape", "internal/bytealg.MakeNoZero"], unfollowed := true, recurses := true, apart := false }
def DiceThrowsSaid : Prop := diceThrowsRow.holds Try.pinned (OpenSpec.ofChange diceThrowsSpec)

/-- ITS FALSE NEIGHBOUR: 'it returns false'. Refute it at one input. -/
def diceThrowsWrong : ChangeSpec := { name := "diceThrows", fn := fun _ => fun
  | [d1, d2] => { results := [.lit (.bool false)], args := [d1, d2] }
  | _ => none }
def DiceThrowsWrongFalsely : Prop := diceThrowsRow.holds Try.pinned (OpenSpec.ofChange diceThrowsWrong)

/- THE SECOND FORM. 'bulk': how many values and letters a reading holds, each counted each time it is reached (what is shared counts as often as it is met; a slice's spare places count too). A statement '..UptoSaid' is the law's where the arguments, and the package variables that the reading takes, are together of bulk at most 1048576: NARROWER than '..Said'. Prove '..Said' where nothing that the law and all that it calls make is longer than what came in: it says more and counts as full. Else prove '..UptoSaid'. A law counts once. -/
mutual
def uptoBulk {H : Type} : DataW H → Nat
  | .lit (.string bytes) => bytes.length + 1
  | .lit _ => 1
  | .nil => 1
  | .ptr d => uptoBulk d + 1
  | .slice elems spare => uptoBulkAll elems + uptoBulkAll spare + 1
  | .agg parts => uptoBulkAll parts + 1
  | .iface _ d => uptoBulk d + 1
  | .map entries => uptoBulkEntries entries + 1
  | .held _ => 1
def uptoBulkAll {H : Type} : List (DataW H) → Nat
  | [] => 0
  | d :: r => uptoBulk d + uptoBulkAll r
def uptoBulkEntries {H : Type} : List (Lit × DataW H) → Nat
  | [] => 0
  | x :: r => uptoBulkEntry x + uptoBulkEntries r
def uptoBulkEntry {H : Type} : Lit × DataW H → Nat
  | (.string bytes, d) => bytes.length + uptoBulk d + 1
  | (_, d) => uptoBulk d + 1
 end
def uptoSmall : (H : Type) → List (DataW H) → Bool := fun _ ds => decide (uptoBulkAll ds ≤ 1048576)
def OpenSpec.upto (s : _root_.Go.ChangeSpec) : _root_.Go.OpenSpec := { _root_.Go.OpenSpec.ofChange s with cond := some uptoSmall }

/-- 'muleteerlaw16.QueueOrder', WHERE WHAT IT READS IS OF BULK AT MOST 1048576: true; the input reads as it did. -/
def queueOrderUptoRow : OpenClaim := { program := "yticcobciafbleaa", sum := "a799aea8221e585ee8954b7580fd8b8308653ca44a5feb2192a135adfc72dd11", func := "muleteer/muleteerlaw16.QueueOrder", spec := "queueOrder", apart := false, narrowed := true }
def QueueOrderUptoSaid : Prop := queueOrderUptoRow.holds Try.pinned (OpenSpec.upto queueOrderSpec)

/-- 'muleteerlaw03.PacketApart', WHERE WHAT IT READS IS OF BULK AT MOST 1048576: true; the input reads as it did. -/
def packetApartUptoRow : OpenClaim := { program := "yticcobciafbleaa", sum := "a799aea8221e585ee8954b7580fd8b8308653ca44a5feb2192a135adfc72dd11", func := "muleteer/muleteerlaw03.PacketApart", spec := "packetApart", inPlace := ["internal/abi.NoEscape"], apart := false, narrowed := true }
def PacketApartUptoSaid : Prop := packetApartUptoRow.holds Try.pinned (OpenSpec.upto packetApartSpec)

/-- 'muleteerlaw17.TokenPlays', WHERE WHAT IT READS IS OF BULK AT MOST 1048576: true; the input reads as it did. -/
def tokenPlaysUptoRow : OpenClaim := { program := "yticcobciafbleaa", sum := "a799aea8221e585ee8954b7580fd8b8308653ca44a5feb2192a135adfc72dd11", func := "muleteer/muleteerlaw17.TokenPlays", spec := "tokenPlays", apart := false, narrowed := true }
def TokenPlaysUptoSaid : Prop := tokenPlaysUptoRow.holds Try.pinned (OpenSpec.upto tokenPlaysSpec)

/-- 'muleteerlaw31.SubmitAfter', WHERE WHAT IT READS IS OF BULK AT MOST 1048576: true; the input reads as it did. -/
def submitAfterUptoRow : OpenClaim := { program := "yticcobciafbleaa", sum := "a799aea8221e585ee8954b7580fd8b8308653ca44a5feb2192a135adfc72dd11", func := "muleteer/muleteerlaw31.SubmitAfter", spec := "submitAfter", unfollowed := true, recurses := true, apart := false, narrowed := true }
def SubmitAfterUptoSaid : Prop := submitAfterUptoRow.holds Try.pinned (OpenSpec.upto submitAfterSpec)

/-- 'muleteerlaw18.LifePlays', WHERE WHAT IT READS IS OF BULK AT MOST 1048576: true; the input reads as it did. -/
def lifePlaysUptoRow : OpenClaim := { program := "yticcobciafbleaa", sum := "a799aea8221e585ee8954b7580fd8b8308653ca44a5feb2192a135adfc72dd11", func := "muleteer/muleteerlaw18.LifePlays", spec := "lifePlays", unfollowed := true, recurses := true, apart := false, narrowed := true }
def LifePlaysUptoSaid : Prop := lifePlaysUptoRow.holds Try.pinned (OpenSpec.upto lifePlaysSpec)

/-- 'muleteerlaw06.EventFinds', WHERE WHAT IT READS IS OF BULK AT MOST 1048576: true; the input reads as it did. -/
def eventFindsUptoRow : OpenClaim := { program := "yticcobciafbleaa", sum := "a799aea8221e585ee8954b7580fd8b8308653ca44a5feb2192a135adfc72dd11", func := "muleteer/muleteerlaw06.EventFinds", spec := "eventFinds", unfollowed := true, recurses := true, apart := false, narrowed := true }
def EventFindsUptoSaid : Prop := eventFindsUptoRow.holds Try.pinned (OpenSpec.upto eventFindsSpec)

/-- 'muleteerlaw19.PicksOrders', WHERE WHAT IT READS IS OF BULK AT MOST 1048576: true; the input reads as it did. -/
def picksOrdersUptoRow : OpenClaim := { program := "yticcobciafbleaa", sum := "a799aea8221e585ee8954b7580fd8b8308653ca44a5feb2192a135adfc72dd11", func := "muleteer/muleteerlaw19.PicksOrders", spec := "picksOrders", recurses := true, apart := false, narrowed := true }
def PicksOrdersUptoSaid : Prop := picksOrdersUptoRow.holds Try.pinned (OpenSpec.upto picksOrdersSpec)

/-- 'muleteerlaw19.PicksRounds', WHERE WHAT IT READS IS OF BULK AT MOST 1048576: true; the input reads as it did. -/
def picksRoundsUptoRow : OpenClaim := { program := "yticcobciafbleaa", sum := "a799aea8221e585ee8954b7580fd8b8308653ca44a5feb2192a135adfc72dd11", func := "muleteer/muleteerlaw19.PicksRounds", spec := "picksRounds", unfollowed := true, recurses := true, apart := false, narrowed := true }
def PicksRoundsUptoSaid : Prop := picksRoundsUptoRow.holds Try.pinned (OpenSpec.upto picksRoundsSpec)

/-- 'muleteerlaw07.ConfPlain', WHERE WHAT IT READS IS OF BULK AT MOST 1048576: true; the input reads as it did. -/
def confPlainUptoRow : OpenClaim := { program := "yticcobciafbleaa", sum := "a799aea8221e585ee8954b7580fd8b8308653ca44a5feb2192a135adfc72dd11", func := "muleteer/muleteerlaw07.ConfPlain", spec := "confPlain", unfollowed := true, recurses := true, apart := false, narrowed := true }
def ConfPlainUptoSaid : Prop := confPlainUptoRow.holds Try.pinned (OpenSpec.upto confPlainSpec)

/-- 'muleteerlaw16.QueuePlays', WHERE WHAT IT READS IS OF BULK AT MOST 1048576: true; the input reads as it did. -/
def queuePlaysUptoRow : OpenClaim := { program := "yticcobciafbleaa", sum := "a799aea8221e585ee8954b7580fd8b8308653ca44a5feb2192a135adfc72dd11", func := "muleteer/muleteerlaw16.QueuePlays", spec := "queuePlays", apart := false, narrowed := true }
def QueuePlaysUptoSaid : Prop := queuePlaysUptoRow.holds Try.pinned (OpenSpec.upto queuePlaysSpec)

/-- 'muleteerlaw27.BatchParts', WHERE WHAT IT READS IS OF BULK AT MOST 1048576: true; the input reads as it did. -/
def batchPartsUptoRow : OpenClaim := { program := "yticcobciafbleaa", sum := "a799aea8221e585ee8954b7580fd8b8308653ca44a5feb2192a135adfc72dd11", func := "muleteer/muleteerlaw27.BatchParts", spec := "batchParts", unfollowed := true, recurses := true, apart := false, narrowed := true }
def BatchPartsUptoSaid : Prop := batchPartsUptoRow.holds Try.pinned (OpenSpec.upto batchPartsSpec)

/-- 'muleteerlaw40.DiceThrows', WHERE WHAT IT READS IS OF BULK AT MOST 1048576: true; the input reads as it did. -/
def diceThrowsUptoRow : OpenClaim := { program := "yticcobciafbleaa", sum := "a799aea8221e585ee8954b7580fd8b8308653ca44a5feb2192a135adfc72dd11", func := "muleteer/muleteerlaw40.DiceThrows", spec := "diceThrows", inPlace := ["internal/abi.NoEscape", "internal/bytealg.MakeNoZero"], unfollowed := true, recurses := true, apart := false, narrowed := true }
def DiceThrowsUptoSaid : Prop := diceThrowsUptoRow.holds Try.pinned (OpenSpec.upto diceThrowsSpec)

end Rows
end Go.Proofs.Yticcobciafbleaa
