/-
  DERIVED. GIVEN WITH THE SEED: THE CARDS: each row of YtnjcenbmdcogpaaGreatDoorRows.lean that lists a variable, with what it lists TIED to the program's text (the seventh form; the later family's looks); each row that meets fmt, with fmt's text TOLD by the authors' own Lean function (tested against real Go, not proved from fmt's source: count such statements apart). THE CARD IS WHAT COUNTS. Prove the row's statement (the work); the ties are given (YtnjcenbmdcogpaaGreatDoorTie.lean); close each card by the builder's one call (the guide's Derived/Test/ToyasCard.lean, 'card_holds'). Laid BY PROGRAM, IN A SANDBOX (cutbox-door.mjs). By AI agents, Wed Nov 11 2026. No macro, syntax, notation, axiom, sorry.
-/
import Derived.Test.YtnjcenbmdcogpaaGreatDoorRows
import GoSem.ClaimSeven
namespace Go.Proofs.YtnjcenbmdcogpaaGreatDoor
namespace Rows

/-- THE TIED CARD OF 'muleteerlaw15.StepPuts'. -/
def stepPutsCard : Claim7 := { stood := { row := stepPutsRow, standIns := [], harness := (true, "b7550fea584c40e6010e3a2366e85530139ceab2648379034d86882935d58548"), looks := true }, kinds := [], alts := [], laidByText := true, laidKinds := [.data, .data, .data, .data, .sentinel, .sentinel, .pinned], laidTests := true, laidLooks := .later }
def StepPutsCardSaid : Prop := Claim7.holds Tryz.pinned (.plain (OpenSpec.ofChange stepPutsSpec)) stepPutsCard

/-- THE TIED CARD OF 'muleteerlaw15.StepPacks'. -/
def stepPacksCard : Claim7 := { stood := { row := stepPacksRow, standIns := [], harness := (true, "b7550fea584c40e6010e3a2366e85530139ceab2648379034d86882935d58548"), looks := true }, kinds := [], alts := [], laidByText := true, laidKinds := [.data, .data, .data, .data, .sentinel, .sentinel, .pinned], laidTests := true, laidLooks := .later }
def StepPacksCardSaid : Prop := Claim7.holds Tryz.pinned (.plain (OpenSpec.ofChange stepPacksSpec)) stepPacksCard

/-- THE TIED CARD OF 'muleteerlaw15.StepReads'. -/
def stepReadsCard : Claim7 := { stood := { row := stepReadsRow, standIns := [], harness := (true, "b7550fea584c40e6010e3a2366e85530139ceab2648379034d86882935d58548"), looks := true }, kinds := [], alts := [], laidByText := true, laidKinds := [.data, .data, .data, .data, .sentinel, .sentinel, .pinned], laidTests := true, laidLooks := .later }
def StepReadsCardSaid : Prop := Claim7.holds Tryz.pinned (.plain (OpenSpec.ofChange stepReadsSpec)) stepReadsCard

/-- THE SECOND FORM's CARD OF 'muleteerlaw15.StepPuts'. -/
def stepPutsUptoCard : Claim7 := { stood := { row := stepPutsUptoRow, standIns := [], harness := (true, "b7550fea584c40e6010e3a2366e85530139ceab2648379034d86882935d58548"), looks := true }, kinds := [], alts := [], laidByText := true, laidKinds := [.data, .data, .data, .data, .sentinel, .sentinel, .pinned], laidTests := true, laidLooks := .later }
def StepPutsUptoCardSaid : Prop := Claim7.holds Tryz.pinned (.plain (OpenSpec.upto stepPutsSpec)) stepPutsUptoCard

/-- THE SECOND FORM's CARD OF 'muleteerlaw15.StepPacks'. -/
def stepPacksUptoCard : Claim7 := { stood := { row := stepPacksUptoRow, standIns := [], harness := (true, "b7550fea584c40e6010e3a2366e85530139ceab2648379034d86882935d58548"), looks := true }, kinds := [], alts := [], laidByText := true, laidKinds := [.data, .data, .data, .data, .sentinel, .sentinel, .pinned], laidTests := true, laidLooks := .later }
def StepPacksUptoCardSaid : Prop := Claim7.holds Tryz.pinned (.plain (OpenSpec.upto stepPacksSpec)) stepPacksUptoCard

/-- THE SECOND FORM's CARD OF 'muleteerlaw15.StepReads'. -/
def stepReadsUptoCard : Claim7 := { stood := { row := stepReadsUptoRow, standIns := [], harness := (true, "b7550fea584c40e6010e3a2366e85530139ceab2648379034d86882935d58548"), looks := true }, kinds := [], alts := [], laidByText := true, laidKinds := [.data, .data, .data, .data, .sentinel, .sentinel, .pinned], laidTests := true, laidLooks := .later }
def StepReadsUptoCardSaid : Prop := Claim7.holds Tryz.pinned (.plain (OpenSpec.upto stepReadsSpec)) stepReadsUptoCard
end Rows
end Go.Proofs.YtnjcenbmdcogpaaGreatDoor
