/-
  DERIVED. GIVEN WITH THE SEED: THE CARDS: each row of YtpakefgbjncdiacDoorRows.lean that lists a variable, with what it lists TIED to the program's text (the seventh form; the later family's looks); each row that meets fmt, with fmt's text TOLD by the authors' own Lean function (tested against real Go, not proved from fmt's source: count such statements apart). THE CARD IS WHAT COUNTS. Prove the row's statement (the work); the ties are given (YtpakefgbjncdiacDoorTie.lean); close each card by the builder's one call (the guide's Derived/Test/ToyasCard.lean, 'card_holds'). Laid BY PROGRAM, IN A SANDBOX (cutbox-door.mjs). By AI agents, Wed Nov 11 2026. No macro, syntax, notation, axiom, sorry.
-/
import Derived.Test.YtpakefgbjncdiacDoorRows
import GoSem.ClaimSeven
namespace Go.Proofs.YtpakefgbjncdiacDoor
namespace Rows

/-- THE TIED CARD OF 'muleteerlaw05.TxnPuts'. -/
def txnPutsCard : Claim7 := { stood := { row := txnPutsRow, standIns := [], harness := (true, "8125a5a5847edb86ebe9bc8bf0c11ee655afcf54f6e96667b69c4e515a332a52"), looks := false }, kinds := [], alts := [], laidByText := true, laidKinds := [.data], laidTests := true, laidLooks := .later }
def TxnPutsCardSaid : Prop := Claim7.holds Tryd.pinned (.plain (OpenSpec.ofChange txnPutsSpec)) txnPutsCard

/-- THE SECOND FORM's CARD OF 'muleteerlaw05.TxnPuts'. -/
def txnPutsUptoCard : Claim7 := { stood := { row := txnPutsUptoRow, standIns := [], harness := (true, "8125a5a5847edb86ebe9bc8bf0c11ee655afcf54f6e96667b69c4e515a332a52"), looks := false }, kinds := [], alts := [], laidByText := true, laidKinds := [.data], laidTests := true, laidLooks := .later }
def TxnPutsUptoCardSaid : Prop := Claim7.holds Tryd.pinned (.plain (OpenSpec.upto txnPutsSpec)) txnPutsUptoCard
end Rows
end Go.Proofs.YtpakefgbjncdiacDoor
