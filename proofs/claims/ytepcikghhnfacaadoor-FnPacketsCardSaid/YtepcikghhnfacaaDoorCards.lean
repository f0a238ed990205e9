/-
  DERIVED. GIVEN WITH THE SEED: THE CARDS: each row of YtepcikghhnfacaaDoorRows.lean that lists a variable, with what it lists TIED to the program's text (the seventh form; the later family's looks); each row that meets fmt, with fmt's text TOLD by the authors' own Lean function (tested against real Go, not proved from fmt's source: count such statements apart). THE CARD IS WHAT COUNTS. Prove the row's statement (the work); the ties are given (YtepcikghhnfacaaDoorTie.lean); close each card by the builder's one call (the guide's Derived/Test/ToyasCard.lean, 'card_holds'). Laid BY PROGRAM, IN A SANDBOX (cutbox-door.mjs). By AI agents, Wed Nov 11 2026. No macro, syntax, notation, axiom, sorry.
-/
import Derived.Test.YtepcikghhnfacaaDoorRows
import GoSem.ClaimSeven
namespace Go.Proofs.YtepcikghhnfacaaDoor
namespace Rows

/-- THE TIED CARD OF 'laws.FnPackets'. -/
def fnPacketsCard : Claim7 := { stood := { row := fnPacketsRow, standIns := [], harness := (true, "c4d118b3e77b0ba63057f23a4a909063bfe29afee880fc7c4e4ba8f26c7b8265"), looks := false }, kinds := [], alts := [], laidByText := true, laidKinds := [.sentinel], laidTests := true, laidLooks := .later }
def FnPacketsCardSaid : Prop := Claim7.holds Tryd.pinned (.plain (OpenSpec.ofChange fnPacketsSpec)) fnPacketsCard

/-- THE TIED CARD OF 'laws.FnExactReadPacket'. -/
def fnExactReadPacketCard : Claim7 := { stood := { row := fnExactReadPacketRow, standIns := [], harness := (true, "c4d118b3e77b0ba63057f23a4a909063bfe29afee880fc7c4e4ba8f26c7b8265"), looks := false }, kinds := [], alts := [], laidByText := true, laidKinds := [.sentinel], laidTests := true, laidLooks := .later }
def FnExactReadPacketCardSaid : Prop := Claim7.holds Tryd.pinned (.plain (OpenSpec.ofChange fnExactReadPacketSpec)) fnExactReadPacketCard

/-- THE SECOND FORM's CARD OF 'laws.FnPackets'. -/
def fnPacketsUptoCard : Claim7 := { stood := { row := fnPacketsUptoRow, standIns := [], harness := (true, "c4d118b3e77b0ba63057f23a4a909063bfe29afee880fc7c4e4ba8f26c7b8265"), looks := false }, kinds := [], alts := [], laidByText := true, laidKinds := [.sentinel], laidTests := true, laidLooks := .later }
def FnPacketsUptoCardSaid : Prop := Claim7.holds Tryd.pinned (.plain (OpenSpec.upto fnPacketsSpec)) fnPacketsUptoCard

/-- THE SECOND FORM's CARD OF 'laws.FnExactReadPacket'. -/
def fnExactReadPacketUptoCard : Claim7 := { stood := { row := fnExactReadPacketUptoRow, standIns := [], harness := (true, "c4d118b3e77b0ba63057f23a4a909063bfe29afee880fc7c4e4ba8f26c7b8265"), looks := false }, kinds := [], alts := [], laidByText := true, laidKinds := [.sentinel], laidTests := true, laidLooks := .later }
def FnExactReadPacketUptoCardSaid : Prop := Claim7.holds Tryd.pinned (.plain (OpenSpec.upto fnExactReadPacketSpec)) fnExactReadPacketUptoCard
end Rows
end Go.Proofs.YtepcikghhnfacaaDoor
