/-
  DERIVED. GIVEN WITH THE SEED: THE CARDS: each row of YtnjcenbmdcogpaaDoorRows.lean that lists a variable, with what it lists TIED to the program's text (the seventh form; the later family's looks); each row that meets fmt, with fmt's text TOLD by the authors' own Lean function (tested against real Go, not proved from fmt's source: count such statements apart). THE CARD IS WHAT COUNTS. Prove the row's statement (the work); the ties are given (YtnjcenbmdcogpaaDoorTie.lean); close each card by the builder's one call (the guide's Derived/Test/ToyasCard.lean, 'card_holds'). Laid BY PROGRAM, IN A SANDBOX (cutbox-door.mjs). By AI agents, Wed Nov 11 2026. No macro, syntax, notation, axiom, sorry.
-/
import Derived.Test.YtnjcenbmdcogpaaDoorRows
import GoSem.ClaimSeven
namespace Go.Proofs.YtnjcenbmdcogpaaDoor
namespace Rows

/-- THE TIED CARD OF 'muleteerlaw15.StepLines'. -/
def stepLinesCard : Claim7 := { stood := { row := stepLinesRow, standIns := [], harness := (true, "8d928815fdd99074a0634140ca3fe1379753a1ff72a32e3cb75f39786ddb6705"), looks := true }, kinds := [], alts := [], laidByText := true, laidKinds := [.data, .data, .data, .data, .sentinel, .sentinel, .pinned], laidTests := true, laidLooks := .later }
def StepLinesCardSaid : Prop := Claim7.holds Tryd.pinned (.plain (OpenSpec.ofChange stepLinesSpec)) stepLinesCard

/-- THE SECOND FORM's CARD OF 'muleteerlaw15.StepLines'. -/
def stepLinesUptoCard : Claim7 := { stood := { row := stepLinesUptoRow, standIns := [], harness := (true, "8d928815fdd99074a0634140ca3fe1379753a1ff72a32e3cb75f39786ddb6705"), looks := true }, kinds := [], alts := [], laidByText := true, laidKinds := [.data, .data, .data, .data, .sentinel, .sentinel, .pinned], laidTests := true, laidLooks := .later }
def StepLinesUptoCardSaid : Prop := Claim7.holds Tryd.pinned (.plain (OpenSpec.upto stepLinesSpec)) stepLinesUptoCard
end Rows
end Go.Proofs.YtnjcenbmdcogpaaDoor
