/-
  DERIVED. GIVEN WITH THE SEED: THE CARDS: each row of YtdljphbfbiganaaDoorRows.lean that lists a variable, with what it lists TIED to the program's text (the seventh form; the later family's looks); each row that meets fmt, with fmt's text TOLD by the authors' own Lean function (tested against real Go, not proved from fmt's source: count such statements apart). THE CARD IS WHAT COUNTS. Prove the row's statement (the work); the ties are given (YtdljphbfbiganaaDoorTie.lean); close each card by the builder's one call (the guide's Derived/Test/ToyasCard.lean, 'card_holds'). Laid BY PROGRAM, IN A SANDBOX (cutbox-door.mjs). By AI agents, Wed Nov 11 2026. No macro, syntax, notation, axiom, sorry.
-/
import Derived.Test.YtdljphbfbiganaaDoorRows
import GoSem.ClaimSeven
namespace Go.Proofs.YtdljphbfbiganaaDoor
namespace Rows

/-- THE TIED CARD OF 'muleteerlaw11.LineOnce'. -/
def lineOnceCard : Claim7 := { stood := { row := lineOnceRow, standIns := [], harness := (true, "497d7477b79360107b52b429ed51359aca2af5511359e0bc33ece8ab0d943356"), looks := false }, kinds := [], alts := [], laidByText := true, laidKinds := [.data], laidTests := true, laidLooks := .later }
def LineOnceCardSaid : Prop := Claim7.holds Tryd.pinned (.plain (OpenSpec.ofChange lineOnceSpec)) lineOnceCard

/-- THE SECOND FORM's CARD OF 'muleteerlaw11.LineOnce'. -/
def lineOnceUptoCard : Claim7 := { stood := { row := lineOnceUptoRow, standIns := [], harness := (true, "497d7477b79360107b52b429ed51359aca2af5511359e0bc33ece8ab0d943356"), looks := false }, kinds := [], alts := [], laidByText := true, laidKinds := [.data], laidTests := true, laidLooks := .later }
def LineOnceUptoCardSaid : Prop := Claim7.holds Tryd.pinned (.plain (OpenSpec.upto lineOnceSpec)) lineOnceUptoCard
end Rows
end Go.Proofs.YtdljphbfbiganaaDoor
