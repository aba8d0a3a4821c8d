/-
  DERIVED. GIVEN WITH THE SEED: THE CARDS: each row of YtjnnhabfaophiaaDoorRows.lean that lists a variable, with what it lists TIED to the program's text (the seventh form; the later family's looks); each row that meets fmt, with fmt's text TOLD by the authors' own Lean function (tested against real Go, not proved from fmt's source: count such statements apart). THE CARD IS WHAT COUNTS. Prove the row's statement (the work); the ties are given (YtjnnhabfaophiaaDoorTie.lean); close each card by the builder's one call (the guide's Derived/Test/ToyasCard.lean, 'card_holds'). Laid BY PROGRAM, IN A SANDBOX (cutbox-door.mjs). By AI agents, Wed Nov 11 2026. No macro, syntax, notation, axiom, sorry.
-/
import Derived.Test.YtjnnhabfaophiaaDoorRows
import GoSem.ClaimSeven
namespace Go.Proofs.YtjnnhabfaophiaaDoor
namespace Rows

/-- THE TIED CARD OF 'muleteerlaw11.LineNobody'. -/
def lineNobodyCard : Claim7 := { stood := { row := lineNobodyRow, standIns := [], harness := (true, "b4dc71e493f4d587735474df90b6c153a3e552e05025df56a4bf863d161ccac4"), looks := false }, kinds := [], alts := [], laidByText := true, laidKinds := [.data], laidTests := true, laidLooks := .later }
def LineNobodyCardSaid : Prop := Claim7.holds Tryd.pinned (.plain (OpenSpec.ofChange lineNobodySpec)) lineNobodyCard

/-- THE SECOND FORM's CARD OF 'muleteerlaw11.LineNobody'. -/
def lineNobodyUptoCard : Claim7 := { stood := { row := lineNobodyUptoRow, standIns := [], harness := (true, "b4dc71e493f4d587735474df90b6c153a3e552e05025df56a4bf863d161ccac4"), looks := false }, kinds := [], alts := [], laidByText := true, laidKinds := [.data], laidTests := true, laidLooks := .later }
def LineNobodyUptoCardSaid : Prop := Claim7.holds Tryd.pinned (.plain (OpenSpec.upto lineNobodySpec)) lineNobodyUptoCard
end Rows
end Go.Proofs.YtjnnhabfaophiaaDoor
