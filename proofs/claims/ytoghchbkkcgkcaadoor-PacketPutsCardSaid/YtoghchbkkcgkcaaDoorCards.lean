/-
  DERIVED. GIVEN WITH THE SEED: THE CARDS: each row of YtoghchbkkcgkcaaDoorRows.lean that lists a variable, with what it lists TIED to the program's text (the seventh form; the later family's looks); each row that meets fmt, with fmt's text TOLD by the authors' own Lean function (tested against real Go, not proved from fmt's source: count such statements apart). THE CARD IS WHAT COUNTS. Prove the row's statement (the work); the ties are given (YtoghchbkkcgkcaaDoorTie.lean); close each card by the builder's one call (the guide's Derived/Test/ToyasCard.lean, 'card_holds'). Laid BY PROGRAM, IN A SANDBOX (cutbox-door.mjs). By AI agents, Wed Nov 11 2026. No macro, syntax, notation, axiom, sorry.
-/
import Derived.Test.YtoghchbkkcgkcaaDoorRows
import GoSem.ClaimSeven
namespace Go.Proofs.YtoghchbkkcgkcaaDoor
namespace Rows

/-- THE TIED CARD OF 'muleteerlaw03.PacketPuts'. -/
def packetPutsCard : Claim7 := { stood := { row := packetPutsRow, standIns := [], harness := (true, "75298e6c4fbe749de2ec32bf7a405eeb980dca5afb352a651ac9a2c07acefe6b"), looks := false }, kinds := [], alts := [], laidByText := true, laidKinds := [.data], laidTests := true, laidLooks := .later }
def PacketPutsCardSaid : Prop := Claim7.holds Tryd.pinned (.plain (OpenSpec.ofChange packetPutsSpec)) packetPutsCard

/-- THE TIED CARD OF 'muleteerlaw03.PacketAcks'. -/
def packetAcksCard : Claim7 := { stood := { row := packetAcksRow, standIns := [], harness := (true, "75298e6c4fbe749de2ec32bf7a405eeb980dca5afb352a651ac9a2c07acefe6b"), looks := false }, kinds := [], alts := [], laidByText := true, laidKinds := [.data], laidTests := true, laidLooks := .later }
def PacketAcksCardSaid : Prop := Claim7.holds Tryd.pinned (.plain (OpenSpec.ofChange packetAcksSpec)) packetAcksCard

/-- THE SECOND FORM's CARD OF 'muleteerlaw03.PacketPuts'. -/
def packetPutsUptoCard : Claim7 := { stood := { row := packetPutsUptoRow, standIns := [], harness := (true, "75298e6c4fbe749de2ec32bf7a405eeb980dca5afb352a651ac9a2c07acefe6b"), looks := false }, kinds := [], alts := [], laidByText := true, laidKinds := [.data], laidTests := true, laidLooks := .later }
def PacketPutsUptoCardSaid : Prop := Claim7.holds Tryd.pinned (.plain (OpenSpec.upto packetPutsSpec)) packetPutsUptoCard

/-- THE SECOND FORM's CARD OF 'muleteerlaw03.PacketAcks'. -/
def packetAcksUptoCard : Claim7 := { stood := { row := packetAcksUptoRow, standIns := [], harness := (true, "75298e6c4fbe749de2ec32bf7a405eeb980dca5afb352a651ac9a2c07acefe6b"), looks := false }, kinds := [], alts := [], laidByText := true, laidKinds := [.data], laidTests := true, laidLooks := .later }
def PacketAcksUptoCardSaid : Prop := Claim7.holds Tryd.pinned (.plain (OpenSpec.upto packetAcksSpec)) packetAcksUptoCard
end Rows
end Go.Proofs.YtoghchbkkcgkcaaDoor
